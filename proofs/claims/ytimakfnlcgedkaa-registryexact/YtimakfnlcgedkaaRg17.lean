import Derived.Test.YtimakfnlcgedkaaRg16
namespace Go.Proofs.Ytimakfnlcgedkaa
open Go.RowKit Go.QK Go.Maps Go.QM Go.QR
set_option maxRecDepth 100000
set_option maxHeartbeats 4000000 in
theorem rplan_place (B b : Nat) (vC vG : Value) (r : Reg) (c d : Int) (w : World) (h : RR w B b vC vG r) (hn : inR c d = false) : Calls Try.prog 36 #[ptr b, .int .i64 c, .int .i64 d] w (PlanPost w r c d) := by
  unfold PlanPost
  have EQ := hide (planE_place (r := r) hn)
  have HR := hide h
  unfold inR at hn
  simp at hn
  have HN := hide hn
  clear hn h
  go_enter Try.func36, Try.ntmps36
  go_upto_region 2 with fail
  refine named (P := Code.wp _ _ _ _) ?_
  intro w3 hw3
  have BW := hide (show Below w.heap.size w w3 by rw [hw3]; exact ((alloc_below _ _).alloc (by simp) _).alloc (by simp; omega) _)
  have Z0 := hide (show Cells w3 w.heap.size [.int .i64 0, .int .i64 0] by rw [hw3]; exact ((Cells.new w #[.int .i64 0, .int .i64 0] 30).below (alloc_below _ _)).below (alloc_below _ _))
  have Z1 := hide (show Cells w3 (w.heap.size + 1) [.int .i64 0, .int .i64 0] by
    have := (Cells.new (w.alloc (.cells #[.int .i64 0, .int .i64 0] 30)) #[.int .i64 0, .int .i64 0] 30).below (alloc_below _ (.cells #[.int .i64 0, .int .i64 0] 30))
    rw [hw3]
    simpa using this)
  have Z9 := hide (show Cells w3 (w.heap.size + 1 + 1) [.int .i64 0, .int .i64 0] by
    have := (Cells.new ((w.alloc (.cells #[.int .i64 0, .int .i64 0] 30)).alloc (.cells #[.int .i64 0, .int .i64 0] 30)) #[.int .i64 0, .int .i64 0] 30)
    rw [hw3]
    simpa using this)
  have HR3 := hide (show RR w3 B b vC vG r by rw [hw3]; exact ((HR.out.below (alloc_below _ _)).below (alloc_below _ _)).below (alloc_below _ _))
  have sW : w.heap.size + 3 ≤ w3.heap.size := by rw [hw3]; simp
  clear hw3 HR
  obtain ⟨Z, hZ⟩ : ∃ Z, Z = w.heap.size + 1 + 1 := ⟨_, rfl⟩
  rw [← hZ] at Z9 ⊢
  obtain ⟨A, hA⟩ : ∃ A, A = w.heap.size := ⟨_, rfl⟩
  rw [← hA] at BW Z0 Z1 sW hZ ⊢
  have hZA : A + 2 ≤ Z ∧ Z ≤ A + 2 := by omega
  have HA := hide hA
  clear hA hZ
  by_cases h1 : c < 1
  · go_upto_region 3 with fail
    refine wp_region_held_drew (S := fun wq => Cells wq Z [.int .i64 0, .int .i64 0]) (by kernel_rfl) Z9.out.drew (fun hS => ?_)
    have Y0 := hide Z0.out.drew
    have Y1 := hide Z1.out.drew
    have Y9 := hide Z9.out.drew
    have BY := hide BW.out.drew
    have sY : A + 3 ≤ w3.drew.heap.size := sW
    generalize w3.drew = y at *
    obtain ⟨p0, q0⟩ := Y0.out.get 0 _ rfl
    obtain ⟨p1, q1⟩ := Y0.out.get 1 _ rfl
    obtain ⟨p2, q2⟩ := Y1.out.get 0 _ rfl
    obtain ⟨p3, q3⟩ := Y1.out.get 1 _ rfl
    refine take_at 0 (some 26) (v := ?_) rfl rfl (by kernel_rfl) (by kernel_rfl) (by kernel_rfl) (fun _ _ _ h => h) ⟨by rfl, ?_⟩ hS ?_
    rotate_left
    · intro wq hSw; have z0 := (hSw.get 0 _ rfl).1; have z1 := (hSw.get 1 _ rfl).1; go_simp; try rfl
    simp only [Act.put, List.setIfInBounds_toArray, List.set_cons_zero, List.set_cons_succ]
    refine take_at 1 (some 27) (v := ?_) rfl rfl (by kernel_rfl) (by kernel_rfl) (by kernel_rfl) (fun _ _ _ h => h) ⟨by rfl, ?_⟩ hS ?_
    rotate_left
    · intro wq hSw; have z0 := (hSw.get 0 _ rfl).1; have z1 := (hSw.get 1 _ rfl).1; go_simp; try rfl
    simp only [Act.put, List.setIfInBounds_toArray, List.set_cons_zero, List.set_cons_succ]
    have k1 := ((Keep.refl (fun z => z = A) y).setCell (g := A) (j := 0) (fun _ => rfl) (.int .i64 0)).setCell (g := A) (j := 1) (fun _ => rfl) (.int .i64 0)
    have k2 := ((((Keep.refl (fun z => z = A ∨ z = A + 1) y).setCell (g := A) (j := 0) (fun _ => .inl rfl) (.int .i64 0)).setCell (g := A) (j := 1) (fun _ => .inl rfl) (.int .i64 0)).setCell (g := A + 1) (j := 0) (fun _ => .inr rfl) (.int .i64 0)).setCell (g := A + 1) (j := 1) (fun _ => .inr rfl) (.int .i64 0)
    refine wpAnyH_ready (rs := [2]) (by kernel_rfl) (by simp) ?_
    refine AllReadyH.cons rfl (fun K hK => ?_) AllReadyH.nil
    go_simp
    go_wp2_with fail
    refine hK.out _ _ (Y9.out.keep k1 (by omega)) (fun hS => ?_)
    clear hK K
    (try simp only [Act.put, List.setIfInBounds_toArray, List.set_cons_zero, List.set_cons_succ])
    refine wpAnyH_ready (rs := [3]) (by kernel_rfl) (by simp) ?_
    refine AllReadyH.cons rfl (fun K hK => ?_) AllReadyH.nil
    go_simp
    go_wp2_with fail
    refine hK.out _ _ (Y9.out.keep k2 (by omega)) (fun hS => ?_)
    clear hK K
    (try simp only [Act.put, List.setIfInBounds_toArray, List.set_cons_zero, List.set_cons_succ])
    refine take_at 4 (some 8) (v := ?_) rfl rfl (by kernel_rfl) (by kernel_rfl) (by kernel_rfl) (fun _ _ _ h => h) ⟨by rfl, ?_⟩ hS ?_
    rotate_left
    · intro wq hSw; go_simp; try rfl
    simp only [Act.put, List.setIfInBounds_toArray, List.set_cons_zero, List.set_cons_succ]
    refine wpAnyH_done (by kernel_rfl) ?_ _
    go_wp2_with fail
    have u0 : A ≠ A + 1 := by omega
    refine bodyPost_ret (v := .tuple #[slotV (0, 0), slotV (0, 0), .int .i64 4]) (by simp [results, Try.results36, go_sem, p0, p1, p2, p3]) rfl ⟨by rw [EQ.out.1, EQ.out.2.1, EQ.out.2.2], ?_⟩
    rw [← HA.out]
    exact BY.out.trans (Keep.below k2 (by omega) (fun z hz q => by omega))
  · by_cases h2 : 1048576 < c
    · go_upto_region 3 with fail
      refine wp_region_held_drew (S := fun wq => Cells wq Z [.int .i64 0, .int .i64 0]) (by kernel_rfl) Z9.out.drew (fun hS => ?_)
      have Y0 := hide Z0.out.drew
      have Y1 := hide Z1.out.drew
      have Y9 := hide Z9.out.drew
      have BY := hide BW.out.drew
      have sY : A + 3 ≤ w3.drew.heap.size := sW
      generalize w3.drew = y at *
      obtain ⟨p0, q0⟩ := Y0.out.get 0 _ rfl
      obtain ⟨p1, q1⟩ := Y0.out.get 1 _ rfl
      obtain ⟨p2, q2⟩ := Y1.out.get 0 _ rfl
      obtain ⟨p3, q3⟩ := Y1.out.get 1 _ rfl
      refine take_at 0 (some 26) (v := ?_) rfl rfl (by kernel_rfl) (by kernel_rfl) (by kernel_rfl) (fun _ _ _ h => h) ⟨by rfl, ?_⟩ hS ?_
      rotate_left
      · intro wq hSw; have z0 := (hSw.get 0 _ rfl).1; have z1 := (hSw.get 1 _ rfl).1; go_simp; try rfl
      simp only [Act.put, List.setIfInBounds_toArray, List.set_cons_zero, List.set_cons_succ]
      refine take_at 1 (some 27) (v := ?_) rfl rfl (by kernel_rfl) (by kernel_rfl) (by kernel_rfl) (fun _ _ _ h => h) ⟨by rfl, ?_⟩ hS ?_
      rotate_left
      · intro wq hSw; have z0 := (hSw.get 0 _ rfl).1; have z1 := (hSw.get 1 _ rfl).1; go_simp; try rfl
      simp only [Act.put, List.setIfInBounds_toArray, List.set_cons_zero, List.set_cons_succ]
      have k1 := ((Keep.refl (fun z => z = A) y).setCell (g := A) (j := 0) (fun _ => rfl) (.int .i64 0)).setCell (g := A) (j := 1) (fun _ => rfl) (.int .i64 0)
      have k2 := ((((Keep.refl (fun z => z = A ∨ z = A + 1) y).setCell (g := A) (j := 0) (fun _ => .inl rfl) (.int .i64 0)).setCell (g := A) (j := 1) (fun _ => .inl rfl) (.int .i64 0)).setCell (g := A + 1) (j := 0) (fun _ => .inr rfl) (.int .i64 0)).setCell (g := A + 1) (j := 1) (fun _ => .inr rfl) (.int .i64 0)
      refine wpAnyH_ready (rs := [2]) (by kernel_rfl) (by simp) ?_
      refine AllReadyH.cons rfl (fun K hK => ?_) AllReadyH.nil
      go_simp
      go_wp2_with fail
      refine hK.out _ _ (Y9.out.keep k1 (by omega)) (fun hS => ?_)
      clear hK K
      (try simp only [Act.put, List.setIfInBounds_toArray, List.set_cons_zero, List.set_cons_succ])
      refine wpAnyH_ready (rs := [3]) (by kernel_rfl) (by simp) ?_
      refine AllReadyH.cons rfl (fun K hK => ?_) AllReadyH.nil
      go_simp
      go_wp2_with fail
      refine hK.out _ _ (Y9.out.keep k2 (by omega)) (fun hS => ?_)
      clear hK K
      (try simp only [Act.put, List.setIfInBounds_toArray, List.set_cons_zero, List.set_cons_succ])
      refine take_at 4 (some 8) (v := ?_) rfl rfl (by kernel_rfl) (by kernel_rfl) (by kernel_rfl) (fun _ _ _ h => h) ⟨by rfl, ?_⟩ hS ?_
      rotate_left
      · intro wq hSw; go_simp; try rfl
      simp only [Act.put, List.setIfInBounds_toArray, List.set_cons_zero, List.set_cons_succ]
      refine wpAnyH_done (by kernel_rfl) ?_ _
      go_wp2_with fail
      have u0 : A ≠ A + 1 := by omega
      refine bodyPost_ret (v := .tuple #[slotV (0, 0), slotV (0, 0), .int .i64 4]) (by simp [results, Try.results36, go_sem, p0, p1, p2, p3]) rfl ⟨by rw [EQ.out.1, EQ.out.2.1, EQ.out.2.2], ?_⟩
      rw [← HA.out]
      exact BY.out.trans (Keep.below k2 (by omega) (fun z hz q => by omega))
    · by_cases h3 : d < 1
      · go_upto_region 3 with fail
        refine wp_region_held_drew (S := fun wq => Cells wq Z [.int .i64 0, .int .i64 0]) (by kernel_rfl) Z9.out.drew (fun hS => ?_)
        have Y0 := hide Z0.out.drew
        have Y1 := hide Z1.out.drew
        have Y9 := hide Z9.out.drew
        have BY := hide BW.out.drew
        have sY : A + 3 ≤ w3.drew.heap.size := sW
        generalize w3.drew = y at *
        obtain ⟨p0, q0⟩ := Y0.out.get 0 _ rfl
        obtain ⟨p1, q1⟩ := Y0.out.get 1 _ rfl
        obtain ⟨p2, q2⟩ := Y1.out.get 0 _ rfl
        obtain ⟨p3, q3⟩ := Y1.out.get 1 _ rfl
        refine take_at 0 (some 26) (v := ?_) rfl rfl (by kernel_rfl) (by kernel_rfl) (by kernel_rfl) (fun _ _ _ h => h) ⟨by rfl, ?_⟩ hS ?_
        rotate_left
        · intro wq hSw; have z0 := (hSw.get 0 _ rfl).1; have z1 := (hSw.get 1 _ rfl).1; go_simp; try rfl
        simp only [Act.put, List.setIfInBounds_toArray, List.set_cons_zero, List.set_cons_succ]
        refine take_at 1 (some 27) (v := ?_) rfl rfl (by kernel_rfl) (by kernel_rfl) (by kernel_rfl) (fun _ _ _ h => h) ⟨by rfl, ?_⟩ hS ?_
        rotate_left
        · intro wq hSw; have z0 := (hSw.get 0 _ rfl).1; have z1 := (hSw.get 1 _ rfl).1; go_simp; try rfl
        simp only [Act.put, List.setIfInBounds_toArray, List.set_cons_zero, List.set_cons_succ]
        have k1 := ((Keep.refl (fun z => z = A) y).setCell (g := A) (j := 0) (fun _ => rfl) (.int .i64 0)).setCell (g := A) (j := 1) (fun _ => rfl) (.int .i64 0)
        have k2 := ((((Keep.refl (fun z => z = A ∨ z = A + 1) y).setCell (g := A) (j := 0) (fun _ => .inl rfl) (.int .i64 0)).setCell (g := A) (j := 1) (fun _ => .inl rfl) (.int .i64 0)).setCell (g := A + 1) (j := 0) (fun _ => .inr rfl) (.int .i64 0)).setCell (g := A + 1) (j := 1) (fun _ => .inr rfl) (.int .i64 0)
        refine wpAnyH_ready (rs := [2]) (by kernel_rfl) (by simp) ?_
        refine AllReadyH.cons rfl (fun K hK => ?_) AllReadyH.nil
        go_simp
        go_wp2_with fail
        refine hK.out _ _ (Y9.out.keep k1 (by omega)) (fun hS => ?_)
        clear hK K
        (try simp only [Act.put, List.setIfInBounds_toArray, List.set_cons_zero, List.set_cons_succ])
        refine wpAnyH_ready (rs := [3]) (by kernel_rfl) (by simp) ?_
        refine AllReadyH.cons rfl (fun K hK => ?_) AllReadyH.nil
        go_simp
        go_wp2_with fail
        refine hK.out _ _ (Y9.out.keep k2 (by omega)) (fun hS => ?_)
        clear hK K
        (try simp only [Act.put, List.setIfInBounds_toArray, List.set_cons_zero, List.set_cons_succ])
        refine take_at 4 (some 8) (v := ?_) rfl rfl (by kernel_rfl) (by kernel_rfl) (by kernel_rfl) (fun _ _ _ h => h) ⟨by rfl, ?_⟩ hS ?_
        rotate_left
        · intro wq hSw; go_simp; try rfl
        simp only [Act.put, List.setIfInBounds_toArray, List.set_cons_zero, List.set_cons_succ]
        refine wpAnyH_done (by kernel_rfl) ?_ _
        go_wp2_with fail
        have u0 : A ≠ A + 1 := by omega
        refine bodyPost_ret (v := .tuple #[slotV (0, 0), slotV (0, 0), .int .i64 4]) (by simp [results, Try.results36, go_sem, p0, p1, p2, p3]) rfl ⟨by rw [EQ.out.1, EQ.out.2.1, EQ.out.2.2], ?_⟩
        rw [← HA.out]
        exact BY.out.trans (Keep.below k2 (by omega) (fun z hz q => by omega))
      · have h4 : 1048576 < d := by have := HN.out; omega
        go_upto_region 3 with fail
        refine wp_region_held_drew (S := fun wq => Cells wq Z [.int .i64 0, .int .i64 0]) (by kernel_rfl) Z9.out.drew (fun hS => ?_)
        have Y0 := hide Z0.out.drew
        have Y1 := hide Z1.out.drew
        have Y9 := hide Z9.out.drew
        have BY := hide BW.out.drew
        have sY : A + 3 ≤ w3.drew.heap.size := sW
        generalize w3.drew = y at *
        obtain ⟨p0, q0⟩ := Y0.out.get 0 _ rfl
        obtain ⟨p1, q1⟩ := Y0.out.get 1 _ rfl
        obtain ⟨p2, q2⟩ := Y1.out.get 0 _ rfl
        obtain ⟨p3, q3⟩ := Y1.out.get 1 _ rfl
        refine take_at 0 (some 26) (v := ?_) rfl rfl (by kernel_rfl) (by kernel_rfl) (by kernel_rfl) (fun _ _ _ h => h) ⟨by rfl, ?_⟩ hS ?_
        rotate_left
        · intro wq hSw; have z0 := (hSw.get 0 _ rfl).1; have z1 := (hSw.get 1 _ rfl).1; go_simp; try rfl
        simp only [Act.put, List.setIfInBounds_toArray, List.set_cons_zero, List.set_cons_succ]
        refine take_at 1 (some 27) (v := ?_) rfl rfl (by kernel_rfl) (by kernel_rfl) (by kernel_rfl) (fun _ _ _ h => h) ⟨by rfl, ?_⟩ hS ?_
        rotate_left
        · intro wq hSw; have z0 := (hSw.get 0 _ rfl).1; have z1 := (hSw.get 1 _ rfl).1; go_simp; try rfl
        simp only [Act.put, List.setIfInBounds_toArray, List.set_cons_zero, List.set_cons_succ]
        have k1 := ((Keep.refl (fun z => z = A) y).setCell (g := A) (j := 0) (fun _ => rfl) (.int .i64 0)).setCell (g := A) (j := 1) (fun _ => rfl) (.int .i64 0)
        have k2 := ((((Keep.refl (fun z => z = A ∨ z = A + 1) y).setCell (g := A) (j := 0) (fun _ => .inl rfl) (.int .i64 0)).setCell (g := A) (j := 1) (fun _ => .inl rfl) (.int .i64 0)).setCell (g := A + 1) (j := 0) (fun _ => .inr rfl) (.int .i64 0)).setCell (g := A + 1) (j := 1) (fun _ => .inr rfl) (.int .i64 0)
        refine wpAnyH_ready (rs := [2]) (by kernel_rfl) (by simp) ?_
        refine AllReadyH.cons rfl (fun K hK => ?_) AllReadyH.nil
        go_simp
        go_wp2_with fail
        refine hK.out _ _ (Y9.out.keep k1 (by omega)) (fun hS => ?_)
        clear hK K
        (try simp only [Act.put, List.setIfInBounds_toArray, List.set_cons_zero, List.set_cons_succ])
        refine wpAnyH_ready (rs := [3]) (by kernel_rfl) (by simp) ?_
        refine AllReadyH.cons rfl (fun K hK => ?_) AllReadyH.nil
        go_simp
        go_wp2_with fail
        refine hK.out _ _ (Y9.out.keep k2 (by omega)) (fun hS => ?_)
        clear hK K
        (try simp only [Act.put, List.setIfInBounds_toArray, List.set_cons_zero, List.set_cons_succ])
        refine take_at 4 (some 8) (v := ?_) rfl rfl (by kernel_rfl) (by kernel_rfl) (by kernel_rfl) (fun _ _ _ h => h) ⟨by rfl, ?_⟩ hS ?_
        rotate_left
        · intro wq hSw; go_simp; try rfl
        simp only [Act.put, List.setIfInBounds_toArray, List.set_cons_zero, List.set_cons_succ]
        refine wpAnyH_done (by kernel_rfl) ?_ _
        go_wp2_with fail
        have u0 : A ≠ A + 1 := by omega
        refine bodyPost_ret (v := .tuple #[slotV (0, 0), slotV (0, 0), .int .i64 4]) (by simp [results, Try.results36, go_sem, p0, p1, p2, p3]) rfl ⟨by rw [EQ.out.1, EQ.out.2.1, EQ.out.2.2], ?_⟩
        rw [← HA.out]
        exact BY.out.trans (Keep.below k2 (by omega) (fun z hz q => by omega))

set_option maxHeartbeats 8000000 in
theorem rplan_in (B b : Nat) (vC vG : Value) (r : Reg) (c d : Int) (w : World) (h : RR w B b vC vG r) (ok : r.Ok) (hn : inR c d = true) : Calls Try.prog 36 #[ptr b, .int .i64 c, .int .i64 d] w (PlanPost w r c d) := by
  unfold PlanPost
  obtain ⟨h1, h2, h3, h4⟩ := inR_true hn
  obtain ⟨hl1, hl2⟩ := ok.lens
  have hP := ok.most
  have KC := fun w' (h : RR w' B b vC vG r) => rcounter_any B b vC vG r c w' h (by omega)
  have KG := fun w' (h : RR w' B b vC vG r) => rgroup_any B b vC vG r d w' h (by omega)
  have HR := hide h
  have HN := hide hn
  clear hn h ok
  cases hp : place r.nums c with
  | some k =>
    rw [hp] at KC
    have EQ := hide (planE_twice (r := r) HN.out (by rw [hp]; rfl))
    have hk0 : ¬ ((k : Int) < 0) := by omega
    simp only [plI] at KC
    clear hp KG
    go_enter Try.func36, Try.ntmps36
    go_upto_region 2 with fail
    refine named (P := Code.wp _ _ _ _) ?_
    intro w3 hw3
    have BW := hide (show Below w.heap.size w w3 by rw [hw3]; exact ((alloc_below _ _).alloc (by simp) _).alloc (by simp; omega) _)
    have Z0 := hide (show Cells w3 w.heap.size [.int .i64 0, .int .i64 0] by rw [hw3]; exact ((Cells.new w #[.int .i64 0, .int .i64 0] 30).below (alloc_below _ _)).below (alloc_below _ _))
    have Z1 := hide (show Cells w3 (w.heap.size + 1) [.int .i64 0, .int .i64 0] by
      have := (Cells.new (w.alloc (.cells #[.int .i64 0, .int .i64 0] 30)) #[.int .i64 0, .int .i64 0] 30).below (alloc_below _ (.cells #[.int .i64 0, .int .i64 0] 30))
      rw [hw3]
      simpa using this)
    have Z9 := hide (show Cells w3 (w.heap.size + 1 + 1) [.int .i64 0, .int .i64 0] by
      have := (Cells.new ((w.alloc (.cells #[.int .i64 0, .int .i64 0] 30)).alloc (.cells #[.int .i64 0, .int .i64 0] 30)) #[.int .i64 0, .int .i64 0] 30)
      rw [hw3]
      simpa using this)
    have HR3 := hide (show RR w3 B b vC vG r by rw [hw3]; exact ((HR.out.below (alloc_below _ _)).below (alloc_below _ _)).below (alloc_below _ _))
    have sW : w.heap.size + 3 ≤ w3.heap.size := by rw [hw3]; simp
    clear hw3 HR
    obtain ⟨Z, hZ⟩ : ∃ Z, Z = w.heap.size + 1 + 1 := ⟨_, rfl⟩
    rw [← hZ] at Z9 ⊢
    obtain ⟨A, hA⟩ : ∃ A, A = w.heap.size := ⟨_, rfl⟩
    rw [← hA] at BW Z0 Z1 sW hZ ⊢
    have hZA : A + 2 ≤ Z ∧ Z ≤ A + 2 := by omega
    have HA := hide hA
    clear hA hZ
    go_upto_region 5 with (go_at_call 45; refine (KC _ HR3.out).mono ?_; rintro e wz ⟨rfl, rfl⟩)
    refine wp_region_held_drew (S := fun wq => Cells wq Z [.int .i64 0, .int .i64 0]) (by kernel_rfl) Z9.out.drew (fun hS => ?_)
    have Y0 := hide Z0.out.drew
    have Y1 := hide Z1.out.drew
    have Y9 := hide Z9.out.drew
    have BY := hide BW.out.drew
    have sY : A + 3 ≤ w3.drew.heap.size := sW
    generalize w3.drew = y at *
    obtain ⟨p0, q0⟩ := Y0.out.get 0 _ rfl
    obtain ⟨p1, q1⟩ := Y0.out.get 1 _ rfl
    obtain ⟨p2, q2⟩ := Y1.out.get 0 _ rfl
    obtain ⟨p3, q3⟩ := Y1.out.get 1 _ rfl
    refine take_at 0 (some 32) (v := ?_) rfl rfl (by kernel_rfl) (by kernel_rfl) (by kernel_rfl) (fun _ _ _ h => h) ⟨by rfl, ?_⟩ hS ?_
    rotate_left
    · intro wq hSw; have z0 := (hSw.get 0 _ rfl).1; have z1 := (hSw.get 1 _ rfl).1; go_simp; try rfl
    simp only [Act.put, List.setIfInBounds_toArray, List.set_cons_zero, List.set_cons_succ]
    refine take_at 1 (some 33) (v := ?_) rfl rfl (by kernel_rfl) (by kernel_rfl) (by kernel_rfl) (fun _ _ _ h => h) ⟨by rfl, ?_⟩ hS ?_
    rotate_left
    · intro wq hSw; have z0 := (hSw.get 0 _ rfl).1; have z1 := (hSw.get 1 _ rfl).1; go_simp; try rfl
    simp only [Act.put, List.setIfInBounds_toArray, List.set_cons_zero, List.set_cons_succ]
    have k1 := ((Keep.refl (fun z => z = A) y).setCell (g := A) (j := 0) (fun _ => rfl) (.int .i64 0)).setCell (g := A) (j := 1) (fun _ => rfl) (.int .i64 0)
    have k2 := ((((Keep.refl (fun z => z = A ∨ z = A + 1) y).setCell (g := A) (j := 0) (fun _ => .inl rfl) (.int .i64 0)).setCell (g := A) (j := 1) (fun _ => .inl rfl) (.int .i64 0)).setCell (g := A + 1) (j := 0) (fun _ => .inr rfl) (.int .i64 0)).setCell (g := A + 1) (j := 1) (fun _ => .inr rfl) (.int .i64 0)
    refine wpAnyH_ready (rs := [2]) (by kernel_rfl) (by simp) ?_
    refine AllReadyH.cons rfl (fun K hK => ?_) AllReadyH.nil
    go_simp
    go_wp2_with fail
    refine hK.out _ _ (Y9.out.keep k1 (by omega)) (fun hS => ?_)
    clear hK K
    (try simp only [Act.put, List.setIfInBounds_toArray, List.set_cons_zero, List.set_cons_succ])
    refine wpAnyH_ready (rs := [3]) (by kernel_rfl) (by simp) ?_
    refine AllReadyH.cons rfl (fun K hK => ?_) AllReadyH.nil
    go_simp
    go_wp2_with fail
    refine hK.out _ _ (Y9.out.keep k2 (by omega)) (fun hS => ?_)
    clear hK K
    (try simp only [Act.put, List.setIfInBounds_toArray, List.set_cons_zero, List.set_cons_succ])
    refine take_at 4 (some 8) (v := ?_) rfl rfl (by kernel_rfl) (by kernel_rfl) (by kernel_rfl) (fun _ _ _ h => h) ⟨by rfl, ?_⟩ hS ?_
    rotate_left
    · intro wq hSw; go_simp; try rfl
    simp only [Act.put, List.setIfInBounds_toArray, List.set_cons_zero, List.set_cons_succ]
    refine wpAnyH_done (by kernel_rfl) ?_ _
    go_wp2_with fail
    have u0 : A ≠ A + 1 := by omega
    refine bodyPost_ret (v := .tuple #[slotV (0, 0), slotV (0, 0), .int .i64 121]) (by simp [results, Try.results36, go_sem, p0, p1, p2, p3]) rfl ⟨by rw [EQ.out.1, EQ.out.2.1, EQ.out.2.2], ?_⟩
    rw [← HA.out]
    exact BY.out.trans (Keep.below k2 (by omega) (fun z hz q => by omega))
  | none =>
    rw [hp] at KC
    simp only [plI] at KC
    have HPN := hide hp
    obtain ⟨aC, cC, aG, cG, rfl, rfl, -, -⟩ := HR.out.c
    obtain ⟨gm, hgm⟩ : ∃ x, x = r.gMore d := ⟨_, rfl⟩
    obtain ⟨ga, hga⟩ : ∃ x, x = r.gAt d := ⟨_, rfl⟩
    have hgm1 : gm ≤ 5377 := by rw [hgm]; unfold Reg.gMore; split <;> omega
    have hga1 : ga ≤ 5377 := by
      rw [hga]; unfold Reg.gAt
      cases hq : place r.G d with
      | none => simp; omega
      | some k => have := place_lt hq; simp; omega
    have KN1 := fun w' => rneeds_any (r.C.length + 1) 31 w' (by omega) (by omega) (by omega)
    have KN2 := fun w' => rneeds_any gm 84 w' (by omega) (by omega) (by omega)
    have KL := fun w' => rlow_any r.C.length w' (by omega)
    have KH := fun w' (h : RR w' B b (.slice aC r.C.length cC) (.slice aG r.G.length cG) r) => rhigh_any B b _ _ r ga w' h hP (by omega)
    have HRM := hide (show r.room d = decide (needs (r.C.length + 1) 31 + needs gm 84 ≤ r.P) by rw [hgm]; rfl)
    have nb1 := needs_le (r.C.length + 1) 31 (by omega)
    have nb2 := needs_le gm 84 (by omega)
    obtain ⟨LW, hLW⟩ : ∃ x, x = low r.C.length := ⟨_, rfl⟩
    obtain ⟨HS, hHS⟩ : ∃ x, x = high r.P ga := ⟨_, rfl⟩
    rw [← hLW] at KL
    rw [← hHS] at KH
    have HLW := hide hLW
    have HHS := hide (hHS.trans (by rw [hga]))
    generalize needs (r.C.length + 1) 31 = n1 at *
    generalize needs gm 84 = n2 at *
    have HGM := hide hgm
    have HGA := hide hga
    clear hp hLW hHS hgm hga
    go_enter Try.func36, Try.ntmps36
    go_upto_region 2 with fail
    refine named (P := Code.wp _ _ _ _) ?_
    intro w3 hw3
    have BW := hide (show Below w.heap.size w w3 by rw [hw3]; exact ((alloc_below _ _).alloc (by simp) _).alloc (by simp; omega) _)
    have Z0 := hide (show Cells w3 w.heap.size [.int .i64 0, .int .i64 0] by rw [hw3]; exact ((Cells.new w #[.int .i64 0, .int .i64 0] 30).below (alloc_below _ _)).below (alloc_below _ _))
    have Z1 := hide (show Cells w3 (w.heap.size + 1) [.int .i64 0, .int .i64 0] by
      have := (Cells.new (w.alloc (.cells #[.int .i64 0, .int .i64 0] 30)) #[.int .i64 0, .int .i64 0] 30).below (alloc_below _ (.cells #[.int .i64 0, .int .i64 0] 30))
      rw [hw3]
      simpa using this)
    have Z9 := hide (show Cells w3 (w.heap.size + 1 + 1) [.int .i64 0, .int .i64 0] by
      have := (Cells.new ((w.alloc (.cells #[.int .i64 0, .int .i64 0] 30)).alloc (.cells #[.int .i64 0, .int .i64 0] 30)) #[.int .i64 0, .int .i64 0] 30)
      rw [hw3]
      simpa using this)
    have HR3 := hide (show RR w3 B b (.slice aC r.C.length cC) (.slice aG r.G.length cG) r by rw [hw3]; exact ((HR.out.below (alloc_below _ _)).below (alloc_below _ _)).below (alloc_below _ _))
    have sW : w.heap.size + 3 ≤ w3.heap.size := by rw [hw3]; simp
    clear hw3 HR
    obtain ⟨Z, hZ⟩ : ∃ Z, Z = w.heap.size + 1 + 1 := ⟨_, rfl⟩
    rw [← hZ] at Z9 ⊢
    obtain ⟨A, hA⟩ : ∃ A, A = w.heap.size := ⟨_, rfl⟩
    rw [← hA] at BW Z0 Z1 sW hZ ⊢
    have hZA : A + 2 ≤ Z ∧ Z ≤ A + 2 := by omega
    have HA := hide hA
    clear hA hZ
    obtain ⟨more, hmo⟩ : ∃ mo : Nat, gm = r.G.length + mo ∧ mo ≤ 1 := by
      rw [HGM.out]; unfold Reg.gMore; split
      · exact ⟨0, by omega, by omega⟩
      · exact ⟨1, rfl, by omega⟩
    have HMO := hide hmo
    go_upto_region 6 with (go_at_call 45; refine (KC _ HR3.out).mono ?_; rintro e wz ⟨rfl, rfl⟩)
    obtain ⟨gi, hgi⟩ : ∃ x, x = plI (place r.G d) := ⟨_, rfl⟩
    have HGI := hide (show (gi < 0 ∧ ga = r.G.length ∧ more = 1) ∨ (¬ gi < 0 ∧ gi = (ga : Int) ∧ more = 0) by
      have h0 := HMO.out.1
      rw [HGM.out] at h0
      rw [hgi, HGA.out]
      unfold Reg.gMore at h0
      unfold Reg.gAt
      cases hq : place r.G d with
      | none => rw [hq] at h0; simp at h0; left; exact ⟨by decide, rfl, by omega⟩
      | some k => rw [hq] at h0; simp at h0; right; exact ⟨by simp only [plI]; omega, rfl, by omega⟩)
    rw [← hgi] at KG
    clear hgi
    go_upto_region 8 with (go_at_call 37; refine (KG _ HR3.out).mono ?_; rintro e wz ⟨rfl, rfl⟩)
    have k2 := (HR3.out.box.get 2 _ rfl).1
    go_upto_if 38 with fail
    go_cut [10, 11] from 37 to 43 (fun v1 v2 w' => v1 = .int .i64 (ga : Int) ∧ v2 = .int .i64 (more : Int) ∧ w' = w3)
    case first =>
      rcases HGI.out with ⟨g0, g1, g2⟩ | ⟨g0, g1, g2⟩
      · have EE := hide (And.intro g1 g2)
        clear g1 g2
        go_wp2_with fail
        go_meet
        exact ⟨by rw [EE.out.1], by rw [EE.out.2]; rfl, rfl⟩
      · have EE := hide (And.intro g1 g2)
        clear g1 g2
        go_wp2_with fail
        go_meet
        exact ⟨by rw [EE.out.1], by rw [EE.out.2]; rfl, rfl⟩
    case rest =>
      obtain ⟨hv1, hv2, hwc⟩ := hcut
      rw [hv1, hv2, hwc]
      clear hv1 hv2 hwc wc k2 KC KG HGI
      have hmo1 := HMO.out.2
      have ew1 : IntKind.i64.wrap ((r.C.length : Int) + 1) = ((r.C.length + 1 : Nat) : Int) := by rw [IntKind.wrap_i64]; omega
      have ew2 : IntKind.i64.wrap ((r.G.length : Int) + (more : Int)) = (gm : Int) := by have := HMO.out.1; rw [IntKind.wrap_i64]; omega
      have ew3 : IntKind.i64.wrap ((n1 : Int) + (n2 : Int)) = ((n1 + n2 : Nat) : Int) := by rw [IntKind.wrap_i64]; omega
      clear hmo
      go_upto_region 11 with fail
      refine wp_region_held_drew (S := fun wq => wq.cell? ⟨b, 0, none⟩ = some (.int .i64 (r.P : Int)) ∧ wq.cell? ⟨b, 1, none⟩ = some (.slice aC r.C.length cC) ∧ wq.cell? ⟨b, 2, none⟩ = some (.slice aG r.G.length cG)) (by kernel_rfl) ⟨(HR3.out.box.get 0 _ rfl).1, (HR3.out.box.get 1 _ rfl).1, (HR3.out.box.get 2 _ rfl).1⟩ (fun hS => ?_)
      have HR4 := hide (HR3.out.below (Below.refl _ _).drew)
      have V0 := hide Z0.out.drew
      have V1 := hide Z1.out.drew
      have V9 := hide Z9.out.drew
      have BV := hide BW.out.drew
      have sV : A + 3 ≤ w3.drew.heap.size := sW
      clear HR3 Z0 Z1 Z9 BW sW
      generalize w3.drew = w4 at *
      refine take_at 0 (some 44) (v := ?_) rfl rfl (by kernel_rfl) (by kernel_rfl) (by kernel_rfl) (fun _ _ _ h => h) ⟨by rfl, ?_⟩ hS ?_
      rotate_left
      · intro wq hSw; go_simp; try rfl
      simp only [Act.put, List.setIfInBounds_toArray, List.set_cons_zero, List.set_cons_succ]
      refine take_at 1 (some 45) (v := ?_) rfl rfl (by kernel_rfl) (by kernel_rfl) (by kernel_rfl) (fun _ _ _ h => h) ⟨by rfl, ?_⟩ hS ?_
      rotate_left
      · intro wq hSw; go_simp; try rfl
      simp only [Act.put, List.setIfInBounds_toArray, List.set_cons_zero, List.set_cons_succ]
      refine take_at 2 (some 46) (v := ?_) rfl rfl (by kernel_rfl) (by kernel_rfl) (by kernel_rfl) (fun _ _ _ h => h) ⟨by rfl, ?_⟩ hS ?_
      rotate_left
      · intro wq hSw; go_simp; try rfl
      simp only [Act.put, List.setIfInBounds_toArray, List.set_cons_zero, List.set_cons_succ]
      refine take_at 3 (some 47) (v := ?_) rfl rfl (by kernel_rfl) (by kernel_rfl) (by kernel_rfl) (fun _ _ _ h => h) ⟨by rfl, ?_⟩ hS ?_
      rotate_left
      · intro wq hSw; obtain ⟨s1, s2, s3⟩ := hSw; go_simp; try rfl
      simp only [Act.put, List.setIfInBounds_toArray, List.set_cons_zero, List.set_cons_succ]
      refine take_at 4 (some 48) (v := ?_) rfl rfl (by kernel_rfl) (by kernel_rfl) (by kernel_rfl) (fun _ _ _ h => h) ⟨by rfl, ?_⟩ hS ?_
      rotate_left
      · intro wq hSw; go_simp; try rfl
      simp only [Act.put, List.setIfInBounds_toArray, List.set_cons_zero, List.set_cons_succ]
      refine take_at 5 (some 49) (v := ?_) rfl rfl (by kernel_rfl) (by kernel_rfl) (by kernel_rfl) (fun _ _ _ h => h) ⟨by rfl, ?_⟩ hS ?_
      rotate_left
      · intro wq hSw; go_simp; try rfl
      simp only [Act.put, List.setIfInBounds_toArray, List.set_cons_zero, List.set_cons_succ]
      refine take_at 7 (some 51) (v := ?_) rfl rfl (by kernel_rfl) (by kernel_rfl) (by kernel_rfl) (fun _ _ _ h => h) ⟨by rfl, ?_⟩ hS ?_
      rotate_left
      · intro wq hSw; go_simp; try rfl
      simp only [Act.put, List.setIfInBounds_toArray, List.set_cons_zero, List.set_cons_succ]
      refine take_at 8 (some 52) (v := ?_) rfl rfl (by kernel_rfl) (by kernel_rfl) (by kernel_rfl) (fun _ _ _ h => h) ⟨by rfl, ?_⟩ hS ?_
      rotate_left
      · intro wq hSw; go_simp; try rfl
      simp only [Act.put, List.setIfInBounds_toArray, List.set_cons_zero, List.set_cons_succ]
      refine take_at 9 (some 53) (v := ?_) rfl rfl (by kernel_rfl) (by kernel_rfl) (by kernel_rfl) (fun _ _ _ h => h) ⟨by rfl, ?_⟩ hS ?_
      rotate_left
      · intro wq hSw; go_simp; try rfl
      simp only [Act.put, List.setIfInBounds_toArray, List.set_cons_zero, List.set_cons_succ]
      refine take_at 10 (some 54) (v := ?_) rfl rfl (by kernel_rfl) (by kernel_rfl) (by kernel_rfl) (fun _ _ _ h => h) ⟨by rfl, ?_⟩ hS ?_
      rotate_left
      · intro wq hSw; obtain ⟨s1, s2, s3⟩ := hSw; go_simp; try rfl
      simp only [Act.put, List.setIfInBounds_toArray, List.set_cons_zero, List.set_cons_succ]
      refine take_at 12 (some 56) (v := ?_) rfl rfl (by kernel_rfl) (by kernel_rfl) (by kernel_rfl) (fun _ _ _ h => h) ⟨by rfl, ?_⟩ hS ?_
      rotate_left
      · intro wq hSw; go_simp; try rfl
      simp only [Act.put, List.setIfInBounds_toArray, List.set_cons_zero, List.set_cons_succ]
      refine take_at 16 (some 60) (v := ?_) rfl rfl (by kernel_rfl) (by kernel_rfl) (by kernel_rfl) (fun _ _ _ h => h) ⟨by rfl, ?_⟩ hS ?_
      rotate_left
      · intro wq hSw; go_simp; try rfl
      simp only [Act.put, List.setIfInBounds_toArray, List.set_cons_zero, List.set_cons_succ]
      refine take_at 17 (some 61) (v := ?_) rfl rfl (by kernel_rfl) (by kernel_rfl) (by kernel_rfl) (fun _ _ _ h => h) ⟨by rfl, ?_⟩ hS ?_
      rotate_left
      · intro wq hSw; go_simp; try rfl
      simp only [Act.put, List.setIfInBounds_toArray, List.set_cons_zero, List.set_cons_succ]
      refine take_at 18 (some 62) (v := ?_) rfl rfl (by kernel_rfl) (by kernel_rfl) (by kernel_rfl) (fun _ _ _ h => h) ⟨by rfl, ?_⟩ hS ?_
      rotate_left
      · intro wq hSw; go_simp; try rfl
      simp only [Act.put, List.setIfInBounds_toArray, List.set_cons_zero, List.set_cons_succ]
      refine take_at 19 (some 63) (v := ?_) rfl rfl (by kernel_rfl) (by kernel_rfl) (by kernel_rfl) (fun _ _ _ h => h) ⟨by rfl, ?_⟩ hS ?_
      rotate_left
      · intro wq hSw; obtain ⟨s1, s2, s3⟩ := hSw; go_simp; try rfl
      simp only [Act.put, List.setIfInBounds_toArray, List.set_cons_zero, List.set_cons_succ]
      refine take_at 11 (some 55) (v := ?_) rfl rfl (by kernel_rfl) (by kernel_rfl) (by kernel_rfl) (fun _ _ _ h => h) ⟨by rfl, ?_⟩ hS ?_
      rotate_left
      · intro wq hSw; go_simp; try rfl
      simp only [Act.put, List.setIfInBounds_toArray, List.set_cons_zero, List.set_cons_succ]
      refine take_at 13 (some 57) (v := ?_) rfl rfl (by kernel_rfl) (by kernel_rfl) (by kernel_rfl) (fun _ _ _ h => h) ⟨by rfl, ?_⟩ hS ?_
      rotate_left
      · intro wq hSw; go_simp; try rfl
      simp only [Act.put, List.setIfInBounds_toArray, List.set_cons_zero, List.set_cons_succ]
      refine wpAnyH_ready (rs := [6]) (by kernel_rfl) (by simp) ?_
      refine AllReadyH.cons rfl (fun K hK => ?_) AllReadyH.nil
      go_simp
      go_wp2_with fail
      refine (KN1 _).mono ?_
      rintro e wz ⟨rfl, rfl⟩
      go_wp2_with fail
      refine hK.out _ _ hS (fun hS => ?_)
      clear hK K
      (try simp only [Act.put, List.setIfInBounds_toArray, List.set_cons_zero, List.set_cons_succ])
      refine wpAnyH_ready (rs := [14]) (by kernel_rfl) (by simp) ?_
      refine AllReadyH.cons rfl (fun K hK => ?_) AllReadyH.nil
      go_simp
      go_wp2_with fail
      refine (KN2 _).mono ?_
      rintro e wz ⟨rfl, rfl⟩
      go_wp2_with fail
      refine hK.out _ _ hS (fun hS => ?_)
      clear hK K
      (try simp only [Act.put, List.setIfInBounds_toArray, List.set_cons_zero, List.set_cons_succ])
      refine take_at 15 (some 59) (v := ?_) rfl rfl (by kernel_rfl) (by kernel_rfl) (by kernel_rfl) (fun _ _ _ h => h) ⟨by rfl, ?_⟩ hS ?_
      rotate_left
      · intro wq hSw; go_simp; try rfl
      simp only [Act.put, List.setIfInBounds_toArray, List.set_cons_zero, List.set_cons_succ]
      refine take_at 20 (some 64) (v := ?_) rfl rfl (by kernel_rfl) (by kernel_rfl) (by kernel_rfl) (fun _ _ _ h => h) ⟨by rfl, ?_⟩ hS ?_
      rotate_left
      · intro wq hSw; go_simp; try rfl
      simp only [Act.put, List.setIfInBounds_toArray, List.set_cons_zero, List.set_cons_succ]
      refine wpAnyH_done (by kernel_rfl) ?_ _
      clear ew1 ew2 ew3 hS KN1 KN2
      have e0 : ((r.P : Int) < ((n1 + n2 : Nat) : Int)) ↔ ¬ (n1 + n2 ≤ r.P) := by omega
      cases hroom : r.room d
      · have hr2 := hroom
        rw [HRM.out] at hr2
        have hr3 : (r.P : Int) < ((n1 + n2 : Nat) : Int) := e0.2 (by simpa using hr2)
        have EQ := hide (planE_full HN.out HPN.out hroom)
        have Z0 := hide V0.out
        have Z1 := hide V1.out
        have Z9 := hide V9.out
        have BW := hide BV.out
        have sW := sV
        clear hr2 e0 hroom V0 V1 V9 BV sV
        go_upto_region 12 with fail
        refine wp_region_held_drew (S := fun wq => Cells wq Z [.int .i64 0, .int .i64 0]) (by kernel_rfl) Z9.out.drew (fun hS => ?_)
        have Y0 := hide Z0.out.drew
        have Y1 := hide Z1.out.drew
        have Y9 := hide Z9.out.drew
        have BY := hide BW.out.drew
        have sY : A + 3 ≤ w4.drew.heap.size := sW
        generalize w4.drew = y at *
        obtain ⟨p0, q0⟩ := Y0.out.get 0 _ rfl
        obtain ⟨p1, q1⟩ := Y0.out.get 1 _ rfl
        obtain ⟨p2, q2⟩ := Y1.out.get 0 _ rfl
        obtain ⟨p3, q3⟩ := Y1.out.get 1 _ rfl
        refine take_at 0 (some 65) (v := ?_) rfl rfl (by kernel_rfl) (by kernel_rfl) (by kernel_rfl) (fun _ _ _ h => h) ⟨by rfl, ?_⟩ hS ?_
        rotate_left
        · intro wq hSw; have z0 := (hSw.get 0 _ rfl).1; have z1 := (hSw.get 1 _ rfl).1; go_simp; try rfl
        simp only [Act.put, List.setIfInBounds_toArray, List.set_cons_zero, List.set_cons_succ]
        refine take_at 1 (some 66) (v := ?_) rfl rfl (by kernel_rfl) (by kernel_rfl) (by kernel_rfl) (fun _ _ _ h => h) ⟨by rfl, ?_⟩ hS ?_
        rotate_left
        · intro wq hSw; have z0 := (hSw.get 0 _ rfl).1; have z1 := (hSw.get 1 _ rfl).1; go_simp; try rfl
        simp only [Act.put, List.setIfInBounds_toArray, List.set_cons_zero, List.set_cons_succ]
        have k1 := ((Keep.refl (fun z => z = A) y).setCell (g := A) (j := 0) (fun _ => rfl) (.int .i64 0)).setCell (g := A) (j := 1) (fun _ => rfl) (.int .i64 0)
        have k2 := ((((Keep.refl (fun z => z = A ∨ z = A + 1) y).setCell (g := A) (j := 0) (fun _ => .inl rfl) (.int .i64 0)).setCell (g := A) (j := 1) (fun _ => .inl rfl) (.int .i64 0)).setCell (g := A + 1) (j := 0) (fun _ => .inr rfl) (.int .i64 0)).setCell (g := A + 1) (j := 1) (fun _ => .inr rfl) (.int .i64 0)
        refine wpAnyH_ready (rs := [2]) (by kernel_rfl) (by simp) ?_
        refine AllReadyH.cons rfl (fun K hK => ?_) AllReadyH.nil
        go_simp
        go_wp2_with fail
        refine hK.out _ _ (Y9.out.keep k1 (by omega)) (fun hS => ?_)
        clear hK K
        (try simp only [Act.put, List.setIfInBounds_toArray, List.set_cons_zero, List.set_cons_succ])
        refine wpAnyH_ready (rs := [3]) (by kernel_rfl) (by simp) ?_
        refine AllReadyH.cons rfl (fun K hK => ?_) AllReadyH.nil
        go_simp
        go_wp2_with fail
        refine hK.out _ _ (Y9.out.keep k2 (by omega)) (fun hS => ?_)
        clear hK K
        (try simp only [Act.put, List.setIfInBounds_toArray, List.set_cons_zero, List.set_cons_succ])
        refine take_at 4 (some 8) (v := ?_) rfl rfl (by kernel_rfl) (by kernel_rfl) (by kernel_rfl) (fun _ _ _ h => h) ⟨by rfl, ?_⟩ hS ?_
        rotate_left
        · intro wq hSw; go_simp; try rfl
        simp only [Act.put, List.setIfInBounds_toArray, List.set_cons_zero, List.set_cons_succ]
        refine wpAnyH_done (by kernel_rfl) ?_ _
        go_wp2_with fail
        have u0 : A ≠ A + 1 := by omega
        refine bodyPost_ret (v := .tuple #[slotV (0, 0), slotV (0, 0), .int .i64 6]) (by simp [results, Try.results36, go_sem, p0, p1, p2, p3]) rfl ⟨by rw [EQ.out.1, EQ.out.2.1, EQ.out.2.2], ?_⟩
        rw [← HA.out]
        exact BY.out.trans (Keep.below k2 (by omega) (fun z hz q => by omega))
      · have hr2 := hroom
        rw [HRM.out] at hr2
        have hr3 : ¬ ((r.P : Int) < ((n1 + n2 : Nat) : Int)) := fun q => (e0.1 q) (by simpa using hr2)
        have EQ := hide (planE_ok HN.out HPN.out hroom)
        clear hr2 e0 hroom
        have kb := (HR4.out.box.get 1 _ rfl).1
        go_wp2_with (first | (go_at_call 47; refine (KL _).mono ?_; rintro e w5 ⟨rfl, hh⟩; have HR5 := hide (HR4.out.below hh); have U0 := hide (V0.out.below hh); have U1 := hide (V1.out.below hh); have BU := hide (BV.out.trans (hh.mono (by omega))); have sU := Nat.le_trans sV hh.size; clear hh HR4 V0 V1 V9 BV sV kb) | (go_at_call 48; refine (KH _ HR5.out).mono ?_; rintro e w6 ⟨rfl, hh⟩; have X0 := hide (U0.out.below hh); have X1 := hide (U1.out.below hh); have BX := hide (BU.out.trans (hh.mono (by omega))); have sX := Nat.le_trans sU hh.size; clear hh HR5 U0 U1 BU sU; obtain ⟨p0, q0⟩ := X0.out.get 0 _ rfl; obtain ⟨p1, q1⟩ := X0.out.get 1 _ rfl; obtain ⟨p2, q2⟩ := X1.out.get 0 _ rfl; obtain ⟨p3, q3⟩ := X1.out.get 1 _ rfl))
        have k2 := ((((Keep.refl (fun z => z = A ∨ z = A + 1) w6).setCell (g := A) (j := 0) (fun _ => .inl rfl) (.int .i64 LW.1)).setCell (g := A) (j := 1) (fun _ => .inl rfl) (.int .i64 LW.2)).setCell (g := A + 1) (j := 0) (fun _ => .inr rfl) (.int .i64 HS.1)).setCell (g := A + 1) (j := 1) (fun _ => .inr rfl) (.int .i64 HS.2)
        have u0 : A ≠ A + 1 := by omega
        refine bodyPost_ret (v := .tuple #[slotV LW, slotV HS, .int .i64 0]) (by simp [results, Try.results36, go_sem, p0, p1, p2, p3]) rfl ⟨by rw [EQ.out.1, EQ.out.2.1, EQ.out.2.2, HLW.out, HHS.out], ?_⟩
        rw [← HA.out]
        exact BX.out.trans (Keep.below k2 (by omega) (fun z hz q => by omega))
theorem rplan_any (B b : Nat) (vC vG : Value) (r : Reg) (c d : Int) (w : World) (h : RR w B b vC vG r) (ok : r.Ok) : Calls Try.prog 36 #[ptr b, .int .i64 c, .int .i64 d] w (PlanPost w r c d) := by
  cases hn : inR c d
  · exact rplan_place B b vC vG r c d w h hn
  · exact rplan_in B b vC vG r c d w h ok hn
end Go.Proofs.Ytimakfnlcgedkaa
