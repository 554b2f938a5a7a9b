import Derived.Test.YtcnlcmdppkdmmaaEc28
namespace Go.Proofs.Ytcnlcmdppkdmmaa
open Go.RowKit Go.QK Quota Go.Maps
set_option maxRecDepth 100000

theorem withZ_B1 {L : Nets} (tx : Int) {d : Int} (hL : ∀ p ∈ L, I64 p.2) (hd : I64 d) : ∀ z ∈ withZ L tx d, B1 z := by
  have h1 : ∀ z ∈ wzs L tx d, B1 z := by
    intro z hz
    obtain ⟨p, hp, rfl⟩ := List.mem_map.1 hz
    have := hL p hp
    unfold wz
    unfold I64 at this hd
    unfold B1
    split <;> omega
  intro z hz
  unfold withZ at hz
  split at hz
  · exact h1 z hz
  · rcases List.mem_append.1 hz with q | q
    · exact h1 z q
    · simp at q
      subst q
      exact I64.b1 hd
theorem withZ_len (L : Nets) (tx d : Int) : (withZ L tx d).length ≤ L.length + 1 := by
  unfold withZ
  split <;> simp

set_option maxHeartbeats 2000000 in
theorem rMay_tx (b : Nat) (e : Esc) (tx d : Int) (w : World) (ht : tx < 1 ∨ 2147483647 < tx) :
    Calls Try.prog 47 #[ptr b, .int .i64 tx, .int .i64 d] w fun r w' => r = .returned (.int .i64 (mayE e tx d)) ∧ Below w.heap.size w w' := by
  have hm : mayE e tx d = 130 := by unfold mayE; rw [if_pos ht]
  rw [hm]
  clear hm
  by_cases hx : tx < 1
  · clear ht
    go_enter Try.func47, Try.ntmps47
    go_wp2_with fail
    go_ret
    exact ⟨rfl, Below.refl _ _⟩
  · have hy : 2147483647 < tx := by omega
    clear ht
    go_enter Try.func47, Try.ntmps47
    go_wp2_with fail
    go_ret
    exact ⟨rfl, Below.refl _ _⟩

set_option maxHeartbeats 8000000 in
theorem rMay_in (b : Nat) (e : Esc) (a : Option Addr) (c : Nat) (tx d : Int) (w : World) (h : RE w b e a c) (hl : e.nets.length ≤ 1400) (hd : I64 d) (ht : ¬ (tx < 1 ∨ 2147483647 < tx)) :
    Calls Try.prog 47 #[ptr b, .int .i64 tx, .int .i64 d] w fun r w' => r = .returned (.int .i64 (mayE e tx d)) ∧ Below w.heap.size w w' := by
  have t1 : ¬ tx < 1 := fun q => ht (.inl q)
  have t2 : ¬ 2147483647 < tx := fun q => ht (.inr q)
  have hme : mayE e tx d = if mLow e tx d < e.lo ∨ e.hi < mHigh e tx d then 110 else if fitB (netV e.nets tx + d) then 0 else 10 := by unfold mayE; rw [if_neg ht]
  have hsum := withZ_sum h.ok.rise tx d
  have KW := fun w' (h : RE w' b e a c) => with_r b e a c tx d w' h hl hd
  have KO := fun w' => of_any e.base w'
  have hzl := withZ_len e.nets tx d
  have KX := fun a' c' w' (hq : Lies w' a' (rowsC wdC (withZ e.nets tx d))) => rWorst_any e.base (withZ e.nets tx d) a' c' w' hq (I64.b1 h.ok.rng.2.2.2) (withZ_B1 tx h.ok.all hd) (by omega)
  have eL : e.base + lows (withZ e.nets tx d) = mLow e tx d := by rw [hsum.1]; unfold mLow Esc.low; omega
  have eH : e.base + highs (withZ e.nets tx d) = mHigh e tx d := by rw [hsum.2]; unfold mHigh Esc.high; omega
  rw [eL, eH] at KX
  have HR := hide h
  obtain ⟨M, hM⟩ : ∃ M, M = mayE e tx d := ⟨_, rfl⟩
  rw [← hM] at hme ⊢
  clear hM hsum eL eH h ht hzl hd
  generalize withZ e.nets tx d = zs at *
  generalize fitB (netV e.nets tx + d) = ft at *
  generalize mLow e tx d = A at *
  generalize mHigh e tx d = B at *
  have KB := fun w' => below_w A e.lo w'
  have KA := fun w' => above_w B e.hi w'
  go_enter Try.func47, Try.ntmps47
  go_wp2_with fail
  refine (KW _ HR.out).mono ?_
  rintro r w1 ⟨a1, c1, rfl, hl1, h1⟩
  have R1 := hide (HR.out.below h1)
  have L1 := hide hl1
  have B1 := hide h1
  have k2 := R1.out.c2
  clear h1 hl1 KW HR t1 t2
  go_wp2_with fail
  refine (KO _).mono ?_
  rintro r w2 ⟨rfl, h2⟩
  have R2 := hide (R1.out.below h2)
  have L2 := hide (L1.out.below h2)
  have B2 := hide (B1.out.trans (h2.mono B1.out.size))
  clear h2 R1 L1 B1 KO k2
  go_wp2_with fail
  refine (KX a1 c1 _ L2.out).mono ?_
  rintro r w3 ⟨rfl, h3⟩
  have o1 := h3.alloc h3.size (.cells #[.int .i64 (wh A), .int .i64 (wl A)] 50)
  have o2 := o1.alloc (by simp; exact Nat.le_succ_of_le h3.size) (.cells #[.int .i64 (wh B), .int .i64 (wl B)] 50)
  have R3 := hide (R2.out.below o2)
  have B3 := hide (B2.out.trans (o2.mono B2.out.size))
  have XA := hide ((Box.new w3 (.int .i64 (wh A)) (.int .i64 (wl A)) 50).alloc (.cells #[.int .i64 (wh B), .int .i64 (wl B)] 50))
  have XB := hide (show Box ((w3.alloc (.cells #[.int .i64 (wh A), .int .i64 (wl A)] 50)).alloc (.cells #[.int .i64 (wh B), .int .i64 (wl B)] 50)) (w3.heap.size + 1) (.int .i64 (wh B)) (.int .i64 (wl B)) from by have := Box.new (w3.alloc (.cells #[.int .i64 (wh A), .int .i64 (wl A)] 50)) (.int .i64 (wh B)) (.int .i64 (wl B)) 50; simpa using this)
  clear h3 o1 o2 R2 L2 B2 KX
  obtain ⟨w4, hw4⟩ : ∃ w4, w4 = (w3.alloc (.cells #[.int .i64 (wh A), .int .i64 (wl A)] 50)).alloc (.cells #[.int .i64 (wh B), .int .i64 (wl B)] 50) := ⟨_, rfl⟩
  go_upto_region 5 with fail
  rw [← hw4] at R3 B3 XA XB ⊢
  clear hw4
  refine wp_region_held_drew (S := fun wq => (wq.cell? ⟨w3.heap.size, 0, none⟩ = some (.int .i64 (wh A)) ∧ wq.cell? ⟨w3.heap.size, 1, none⟩ = some (.int .i64 (wl A))) ∧ (wq.cell? ⟨w3.heap.size + 1, 0, none⟩ = some (.int .i64 (wh B)) ∧ wq.cell? ⟨w3.heap.size + 1, 1, none⟩ = some (.int .i64 (wl B))) ∧ (wq.cell? ⟨b, 0, none⟩ = some (.int .i64 e.lo) ∧ wq.cell? ⟨b, 1, none⟩ = some (.int .i64 e.hi))) (by kernel_rfl) ⟨⟨XA.out.2.1, XA.out.2.2.1⟩, ⟨XB.out.2.1, XB.out.2.2.1⟩, ⟨R3.out.c0, R3.out.c1⟩⟩ (fun hS => ?_)
  have R5 := hide (R3.out.below (Below.refl _ _).drew)
  have XA5 := hide (XA.out.below (Below.refl _ _).drew)
  have XB5 := hide (XB.out.below (Below.refl _ _).drew)
  have B5 := hide B3.out.drew
  clear R3 XA XB B3
  generalize w4.drew = w5 at *
  by_cases q1 : A < e.lo
  · have d1 : decide (A < e.lo) = true := by simpa using q1
    rw [d1] at KB
    obtain rfl : M = 110 := by rw [hme, if_pos (.inl q1)]
    clear hme q1 d1
    refine take_at 0 (some 34) (v := ?_) rfl rfl (by kernel_rfl) (by kernel_rfl) (by kernel_rfl) (fun _ _ _ h => h) ⟨by rfl, ?_⟩ hS ?_
    rotate_left
    · intro wq hSw; obtain ⟨⟨r0, r1⟩, ⟨r2, r3⟩, ⟨r4, r5⟩⟩ := hSw; go_simp; try rfl
    simp only [Act.put, List.setIfInBounds_toArray, List.set_cons_zero, List.set_cons_succ]
    refine take_at 1 (some 35) (v := ?_) rfl rfl (by kernel_rfl) (by kernel_rfl) (by kernel_rfl) (fun _ _ _ h => h) ⟨by rfl, ?_⟩ hS ?_
    rotate_left
    · intro wq hSw; go_simp; try rfl
    simp only [Act.put, List.setIfInBounds_toArray, List.set_cons_zero, List.set_cons_succ]
    refine take_at 2 (some 36) (v := ?_) rfl rfl (by kernel_rfl) (by kernel_rfl) (by kernel_rfl) (fun _ _ _ h => h) ⟨by rfl, ?_⟩ hS ?_
    rotate_left
    · intro wq hSw; go_simp; try rfl
    simp only [Act.put, List.setIfInBounds_toArray, List.set_cons_zero, List.set_cons_succ]
    refine take_at 3 (some 37) (v := ?_) rfl rfl (by kernel_rfl) (by kernel_rfl) (by kernel_rfl) (fun _ _ _ h => h) ⟨by rfl, ?_⟩ hS ?_
    rotate_left
    · intro wq hSw; go_simp; try rfl
    simp only [Act.put, List.setIfInBounds_toArray, List.set_cons_zero, List.set_cons_succ]
    refine take_at 4 (some 38) (v := ?_) rfl rfl (by kernel_rfl) (by kernel_rfl) (by kernel_rfl) (fun _ _ _ h => h) ⟨by rfl, ?_⟩ hS ?_
    rotate_left
    · intro wq hSw; go_simp; try rfl
    simp only [Act.put, List.setIfInBounds_toArray, List.set_cons_zero, List.set_cons_succ]
    refine take_at 5 (some 39) (v := ?_) rfl rfl (by kernel_rfl) (by kernel_rfl) (by kernel_rfl) (fun _ _ _ h => h) ⟨by rfl, ?_⟩ hS ?_
    rotate_left
    · intro wq hSw; obtain ⟨⟨r0, r1⟩, ⟨r2, r3⟩, ⟨r4, r5⟩⟩ := hSw; go_simp; try rfl
    simp only [Act.put, List.setIfInBounds_toArray, List.set_cons_zero, List.set_cons_succ]
    refine wpAnyH_ready (rs := [6]) (by kernel_rfl) (by simp) ?_
    refine AllReadyH.cons rfl (fun K hK => ?_) AllReadyH.nil
    go_simp
    go_wp2_with fail
    refine (KB _).mono ?_
    rintro r w6 ⟨rfl, hh⟩
    have R6 := hide (R5.out.below hh)
    have XA6 := hide (XA5.out.below hh)
    have XB6 := hide (XB5.out.below hh)
    have B6 := hide (B5.out.trans (hh.mono B5.out.size))
    clear hh R5 XA5 XB5 B5
    go_wp2_with fail
    refine hK.out _ _ ⟨⟨XA6.out.2.1, XA6.out.2.2.1⟩, ⟨XB6.out.2.1, XB6.out.2.2.1⟩, ⟨R6.out.c0, R6.out.c1⟩⟩ (fun hS => ?_)
    clear hK K
    (try simp only [Act.put, List.setIfInBounds_toArray, List.set_cons_zero, List.set_cons_succ])
    refine take_at 7 (some 41) (v := ?_) rfl rfl (by kernel_rfl) (by kernel_rfl) (by kernel_rfl) (fun _ _ _ h => h) ⟨by rfl, ?_⟩ hS ?_
    rotate_left
    · intro wq hSw; go_simp; try rfl
    simp only [Act.put, List.setIfInBounds_toArray, List.set_cons_zero, List.set_cons_succ]
    refine pass_at 8 (some 42) rfl rfl (by kernel_rfl) (by kernel_rfl) (by kernel_rfl) (fun _ _ _ h => h) (by rfl) hS ?_
    simp only [Act.put, List.setIfInBounds_toArray, List.set_cons_zero, List.set_cons_succ]
    refine pass_at 9 (some 43) rfl rfl (by kernel_rfl) (by kernel_rfl) (by kernel_rfl) (fun _ _ _ h => h) (by rfl) hS ?_
    simp only [Act.put, List.setIfInBounds_toArray, List.set_cons_zero, List.set_cons_succ]
    refine pass_at 10 (some 44) rfl rfl (by kernel_rfl) (by kernel_rfl) (by kernel_rfl) (fun _ _ _ h => h) (by rfl) hS ?_
    simp only [Act.put, List.setIfInBounds_toArray, List.set_cons_zero, List.set_cons_succ]
    refine pass_at 11 (some 45) rfl rfl (by kernel_rfl) (by kernel_rfl) (by kernel_rfl) (fun _ _ _ h => h) (by rfl) hS ?_
    simp only [Act.put, List.setIfInBounds_toArray, List.set_cons_zero, List.set_cons_succ]
    refine pass_at 12 (some 46) rfl rfl (by kernel_rfl) (by kernel_rfl) (by kernel_rfl) (fun _ _ _ h => h) (by rfl) hS ?_
    simp only [Act.put, List.setIfInBounds_toArray, List.set_cons_zero, List.set_cons_succ]
    refine pass_at 13 (some 47) rfl rfl (by kernel_rfl) (by kernel_rfl) (by kernel_rfl) (fun _ _ _ h => h) (by rfl) hS ?_
    simp only [Act.put, List.setIfInBounds_toArray, List.set_cons_zero, List.set_cons_succ]
    refine pass_at 14 (some 48) rfl rfl (by kernel_rfl) (by kernel_rfl) (by kernel_rfl) (fun _ _ _ h => h) (by rfl) hS ?_
    simp only [Act.put, List.setIfInBounds_toArray, List.set_cons_zero, List.set_cons_succ]
    refine take_at 15 (some 49) (v := ?_) rfl rfl (by kernel_rfl) (by kernel_rfl) (by kernel_rfl) (fun _ _ _ h => h) ⟨by rfl, ?_⟩ hS ?_
    rotate_left
    · intro wq hSw; go_simp; try rfl
    simp only [Act.put, List.setIfInBounds_toArray, List.set_cons_zero, List.set_cons_succ]
    refine wpAnyH_done (by kernel_rfl) ?_ _
    go_wp2_with fail
    go_ret
    exact ⟨rfl, B6.out⟩
  · have d1 : decide (A < e.lo) = false := by simpa using q1
    rw [d1] at KB
    by_cases q2 : e.hi < B
    · have d2 : decide (e.hi < B) = true := by simpa using q2
      rw [d2] at KA
      obtain rfl : M = 110 := by rw [hme, if_pos (.inr q2)]
      clear hme q1 d1 q2 d2
      refine take_at 0 (some 34) (v := ?_) rfl rfl (by kernel_rfl) (by kernel_rfl) (by kernel_rfl) (fun _ _ _ h => h) ⟨by rfl, ?_⟩ hS ?_
      rotate_left
      · intro wq hSw; obtain ⟨⟨r0, r1⟩, ⟨r2, r3⟩, ⟨r4, r5⟩⟩ := hSw; go_simp; try rfl
      simp only [Act.put, List.setIfInBounds_toArray, List.set_cons_zero, List.set_cons_succ]
      refine take_at 1 (some 35) (v := ?_) rfl rfl (by kernel_rfl) (by kernel_rfl) (by kernel_rfl) (fun _ _ _ h => h) ⟨by rfl, ?_⟩ hS ?_
      rotate_left
      · intro wq hSw; go_simp; try rfl
      simp only [Act.put, List.setIfInBounds_toArray, List.set_cons_zero, List.set_cons_succ]
      refine take_at 2 (some 36) (v := ?_) rfl rfl (by kernel_rfl) (by kernel_rfl) (by kernel_rfl) (fun _ _ _ h => h) ⟨by rfl, ?_⟩ hS ?_
      rotate_left
      · intro wq hSw; go_simp; try rfl
      simp only [Act.put, List.setIfInBounds_toArray, List.set_cons_zero, List.set_cons_succ]
      refine take_at 3 (some 37) (v := ?_) rfl rfl (by kernel_rfl) (by kernel_rfl) (by kernel_rfl) (fun _ _ _ h => h) ⟨by rfl, ?_⟩ hS ?_
      rotate_left
      · intro wq hSw; go_simp; try rfl
      simp only [Act.put, List.setIfInBounds_toArray, List.set_cons_zero, List.set_cons_succ]
      refine take_at 4 (some 38) (v := ?_) rfl rfl (by kernel_rfl) (by kernel_rfl) (by kernel_rfl) (fun _ _ _ h => h) ⟨by rfl, ?_⟩ hS ?_
      rotate_left
      · intro wq hSw; go_simp; try rfl
      simp only [Act.put, List.setIfInBounds_toArray, List.set_cons_zero, List.set_cons_succ]
      refine take_at 5 (some 39) (v := ?_) rfl rfl (by kernel_rfl) (by kernel_rfl) (by kernel_rfl) (fun _ _ _ h => h) ⟨by rfl, ?_⟩ hS ?_
      rotate_left
      · intro wq hSw; obtain ⟨⟨r0, r1⟩, ⟨r2, r3⟩, ⟨r4, r5⟩⟩ := hSw; go_simp; try rfl
      simp only [Act.put, List.setIfInBounds_toArray, List.set_cons_zero, List.set_cons_succ]
      refine wpAnyH_ready (rs := [6]) (by kernel_rfl) (by simp) ?_
      refine AllReadyH.cons rfl (fun K hK => ?_) AllReadyH.nil
      go_simp
      go_wp2_with fail
      refine (KB _).mono ?_
      rintro r w6 ⟨rfl, hh⟩
      have R6 := hide (R5.out.below hh)
      have XA6 := hide (XA5.out.below hh)
      have XB6 := hide (XB5.out.below hh)
      have B6 := hide (B5.out.trans (hh.mono B5.out.size))
      clear hh R5 XA5 XB5 B5
      go_wp2_with fail
      refine hK.out _ _ ⟨⟨XA6.out.2.1, XA6.out.2.2.1⟩, ⟨XB6.out.2.1, XB6.out.2.2.1⟩, ⟨R6.out.c0, R6.out.c1⟩⟩ (fun hS => ?_)
      clear hK K
      (try simp only [Act.put, List.setIfInBounds_toArray, List.set_cons_zero, List.set_cons_succ])
      refine take_at 7 (some 41) (v := ?_) rfl rfl (by kernel_rfl) (by kernel_rfl) (by kernel_rfl) (fun _ _ _ h => h) ⟨by rfl, ?_⟩ hS ?_
      rotate_left
      · intro wq hSw; go_simp; try rfl
      simp only [Act.put, List.setIfInBounds_toArray, List.set_cons_zero, List.set_cons_succ]
      refine take_at 8 (some 42) (v := ?_) rfl rfl (by kernel_rfl) (by kernel_rfl) (by kernel_rfl) (fun _ _ _ h => h) ⟨by rfl, ?_⟩ hS ?_
      rotate_left
      · intro wq hSw; obtain ⟨⟨r0, r1⟩, ⟨r2, r3⟩, ⟨r4, r5⟩⟩ := hSw; go_simp; try rfl
      simp only [Act.put, List.setIfInBounds_toArray, List.set_cons_zero, List.set_cons_succ]
      refine take_at 9 (some 43) (v := ?_) rfl rfl (by kernel_rfl) (by kernel_rfl) (by kernel_rfl) (fun _ _ _ h => h) ⟨by rfl, ?_⟩ hS ?_
      rotate_left
      · intro wq hSw; go_simp; try rfl
      simp only [Act.put, List.setIfInBounds_toArray, List.set_cons_zero, List.set_cons_succ]
      refine take_at 10 (some 44) (v := ?_) rfl rfl (by kernel_rfl) (by kernel_rfl) (by kernel_rfl) (fun _ _ _ h => h) ⟨by rfl, ?_⟩ hS ?_
      rotate_left
      · intro wq hSw; go_simp; try rfl
      simp only [Act.put, List.setIfInBounds_toArray, List.set_cons_zero, List.set_cons_succ]
      refine take_at 11 (some 45) (v := ?_) rfl rfl (by kernel_rfl) (by kernel_rfl) (by kernel_rfl) (fun _ _ _ h => h) ⟨by rfl, ?_⟩ hS ?_
      rotate_left
      · intro wq hSw; go_simp; try rfl
      simp only [Act.put, List.setIfInBounds_toArray, List.set_cons_zero, List.set_cons_succ]
      refine take_at 12 (some 46) (v := ?_) rfl rfl (by kernel_rfl) (by kernel_rfl) (by kernel_rfl) (fun _ _ _ h => h) ⟨by rfl, ?_⟩ hS ?_
      rotate_left
      · intro wq hSw; go_simp; try rfl
      simp only [Act.put, List.setIfInBounds_toArray, List.set_cons_zero, List.set_cons_succ]
      refine take_at 13 (some 47) (v := ?_) rfl rfl (by kernel_rfl) (by kernel_rfl) (by kernel_rfl) (fun _ _ _ h => h) ⟨by rfl, ?_⟩ hS ?_
      rotate_left
      · intro wq hSw; obtain ⟨⟨r0, r1⟩, ⟨r2, r3⟩, ⟨r4, r5⟩⟩ := hSw; go_simp; try rfl
      simp only [Act.put, List.setIfInBounds_toArray, List.set_cons_zero, List.set_cons_succ]
      refine wpAnyH_ready (rs := [14]) (by kernel_rfl) (by simp) ?_
      refine AllReadyH.cons rfl (fun K hK => ?_) AllReadyH.nil
      go_simp
      go_wp2_with fail
      refine (KA _).mono ?_
      rintro r w7 ⟨rfl, hh⟩
      have R7 := hide (R6.out.below hh)
      have XA7 := hide (XA6.out.below hh)
      have XB7 := hide (XB6.out.below hh)
      have B7 := hide (B6.out.trans (hh.mono B6.out.size))
      clear hh R6 XA6 XB6 B6
      go_wp2_with fail
      refine hK.out _ _ ⟨⟨XA7.out.2.1, XA7.out.2.2.1⟩, ⟨XB7.out.2.1, XB7.out.2.2.1⟩, ⟨R7.out.c0, R7.out.c1⟩⟩ (fun hS => ?_)
      clear hK K
      (try simp only [Act.put, List.setIfInBounds_toArray, List.set_cons_zero, List.set_cons_succ])
      refine take_at 15 (some 49) (v := ?_) rfl rfl (by kernel_rfl) (by kernel_rfl) (by kernel_rfl) (fun _ _ _ h => h) ⟨by rfl, ?_⟩ hS ?_
      rotate_left
      · intro wq hSw; go_simp; try rfl
      simp only [Act.put, List.setIfInBounds_toArray, List.set_cons_zero, List.set_cons_succ]
      refine wpAnyH_done (by kernel_rfl) ?_ _
      go_wp2_with fail
      go_ret
      exact ⟨rfl, B7.out⟩
    · have d2 : decide (e.hi < B) = false := by simpa using q2
      rw [d2] at KA
      rw [if_neg (by omega)] at hme
      have HM := hide hme
      clear hme q1 d1 q2 d2
      refine take_at 0 (some 34) (v := ?_) rfl rfl (by kernel_rfl) (by kernel_rfl) (by kernel_rfl) (fun _ _ _ h => h) ⟨by rfl, ?_⟩ hS ?_
      rotate_left
      · intro wq hSw; obtain ⟨⟨r0, r1⟩, ⟨r2, r3⟩, ⟨r4, r5⟩⟩ := hSw; go_simp; try rfl
      simp only [Act.put, List.setIfInBounds_toArray, List.set_cons_zero, List.set_cons_succ]
      refine take_at 1 (some 35) (v := ?_) rfl rfl (by kernel_rfl) (by kernel_rfl) (by kernel_rfl) (fun _ _ _ h => h) ⟨by rfl, ?_⟩ hS ?_
      rotate_left
      · intro wq hSw; go_simp; try rfl
      simp only [Act.put, List.setIfInBounds_toArray, List.set_cons_zero, List.set_cons_succ]
      refine take_at 2 (some 36) (v := ?_) rfl rfl (by kernel_rfl) (by kernel_rfl) (by kernel_rfl) (fun _ _ _ h => h) ⟨by rfl, ?_⟩ hS ?_
      rotate_left
      · intro wq hSw; go_simp; try rfl
      simp only [Act.put, List.setIfInBounds_toArray, List.set_cons_zero, List.set_cons_succ]
      refine take_at 3 (some 37) (v := ?_) rfl rfl (by kernel_rfl) (by kernel_rfl) (by kernel_rfl) (fun _ _ _ h => h) ⟨by rfl, ?_⟩ hS ?_
      rotate_left
      · intro wq hSw; go_simp; try rfl
      simp only [Act.put, List.setIfInBounds_toArray, List.set_cons_zero, List.set_cons_succ]
      refine take_at 4 (some 38) (v := ?_) rfl rfl (by kernel_rfl) (by kernel_rfl) (by kernel_rfl) (fun _ _ _ h => h) ⟨by rfl, ?_⟩ hS ?_
      rotate_left
      · intro wq hSw; go_simp; try rfl
      simp only [Act.put, List.setIfInBounds_toArray, List.set_cons_zero, List.set_cons_succ]
      refine take_at 5 (some 39) (v := ?_) rfl rfl (by kernel_rfl) (by kernel_rfl) (by kernel_rfl) (fun _ _ _ h => h) ⟨by rfl, ?_⟩ hS ?_
      rotate_left
      · intro wq hSw; obtain ⟨⟨r0, r1⟩, ⟨r2, r3⟩, ⟨r4, r5⟩⟩ := hSw; go_simp; try rfl
      simp only [Act.put, List.setIfInBounds_toArray, List.set_cons_zero, List.set_cons_succ]
      refine wpAnyH_ready (rs := [6]) (by kernel_rfl) (by simp) ?_
      refine AllReadyH.cons rfl (fun K hK => ?_) AllReadyH.nil
      go_simp
      go_wp2_with fail
      refine (KB _).mono ?_
      rintro r w6 ⟨rfl, hh⟩
      have R6 := hide (R5.out.below hh)
      have XA6 := hide (XA5.out.below hh)
      have XB6 := hide (XB5.out.below hh)
      have B6 := hide (B5.out.trans (hh.mono B5.out.size))
      clear hh R5 XA5 XB5 B5
      go_wp2_with fail
      refine hK.out _ _ ⟨⟨XA6.out.2.1, XA6.out.2.2.1⟩, ⟨XB6.out.2.1, XB6.out.2.2.1⟩, ⟨R6.out.c0, R6.out.c1⟩⟩ (fun hS => ?_)
      clear hK K
      (try simp only [Act.put, List.setIfInBounds_toArray, List.set_cons_zero, List.set_cons_succ])
      refine take_at 7 (some 41) (v := ?_) rfl rfl (by kernel_rfl) (by kernel_rfl) (by kernel_rfl) (fun _ _ _ h => h) ⟨by rfl, ?_⟩ hS ?_
      rotate_left
      · intro wq hSw; go_simp; try rfl
      simp only [Act.put, List.setIfInBounds_toArray, List.set_cons_zero, List.set_cons_succ]
      refine take_at 8 (some 42) (v := ?_) rfl rfl (by kernel_rfl) (by kernel_rfl) (by kernel_rfl) (fun _ _ _ h => h) ⟨by rfl, ?_⟩ hS ?_
      rotate_left
      · intro wq hSw; obtain ⟨⟨r0, r1⟩, ⟨r2, r3⟩, ⟨r4, r5⟩⟩ := hSw; go_simp; try rfl
      simp only [Act.put, List.setIfInBounds_toArray, List.set_cons_zero, List.set_cons_succ]
      refine take_at 9 (some 43) (v := ?_) rfl rfl (by kernel_rfl) (by kernel_rfl) (by kernel_rfl) (fun _ _ _ h => h) ⟨by rfl, ?_⟩ hS ?_
      rotate_left
      · intro wq hSw; go_simp; try rfl
      simp only [Act.put, List.setIfInBounds_toArray, List.set_cons_zero, List.set_cons_succ]
      refine take_at 10 (some 44) (v := ?_) rfl rfl (by kernel_rfl) (by kernel_rfl) (by kernel_rfl) (fun _ _ _ h => h) ⟨by rfl, ?_⟩ hS ?_
      rotate_left
      · intro wq hSw; go_simp; try rfl
      simp only [Act.put, List.setIfInBounds_toArray, List.set_cons_zero, List.set_cons_succ]
      refine take_at 11 (some 45) (v := ?_) rfl rfl (by kernel_rfl) (by kernel_rfl) (by kernel_rfl) (fun _ _ _ h => h) ⟨by rfl, ?_⟩ hS ?_
      rotate_left
      · intro wq hSw; go_simp; try rfl
      simp only [Act.put, List.setIfInBounds_toArray, List.set_cons_zero, List.set_cons_succ]
      refine take_at 12 (some 46) (v := ?_) rfl rfl (by kernel_rfl) (by kernel_rfl) (by kernel_rfl) (fun _ _ _ h => h) ⟨by rfl, ?_⟩ hS ?_
      rotate_left
      · intro wq hSw; go_simp; try rfl
      simp only [Act.put, List.setIfInBounds_toArray, List.set_cons_zero, List.set_cons_succ]
      refine take_at 13 (some 47) (v := ?_) rfl rfl (by kernel_rfl) (by kernel_rfl) (by kernel_rfl) (fun _ _ _ h => h) ⟨by rfl, ?_⟩ hS ?_
      rotate_left
      · intro wq hSw; obtain ⟨⟨r0, r1⟩, ⟨r2, r3⟩, ⟨r4, r5⟩⟩ := hSw; go_simp; try rfl
      simp only [Act.put, List.setIfInBounds_toArray, List.set_cons_zero, List.set_cons_succ]
      refine wpAnyH_ready (rs := [14]) (by kernel_rfl) (by simp) ?_
      refine AllReadyH.cons rfl (fun K hK => ?_) AllReadyH.nil
      go_simp
      go_wp2_with fail
      refine (KA _).mono ?_
      rintro r w7 ⟨rfl, hh⟩
      have R7 := hide (R6.out.below hh)
      have XA7 := hide (XA6.out.below hh)
      have XB7 := hide (XB6.out.below hh)
      have B7 := hide (B6.out.trans (hh.mono B6.out.size))
      clear hh R6 XA6 XB6 B6
      go_wp2_with fail
      refine hK.out _ _ ⟨⟨XA7.out.2.1, XA7.out.2.2.1⟩, ⟨XB7.out.2.1, XB7.out.2.2.1⟩, ⟨R7.out.c0, R7.out.c1⟩⟩ (fun hS => ?_)
      clear hK K
      (try simp only [Act.put, List.setIfInBounds_toArray, List.set_cons_zero, List.set_cons_succ])
      refine take_at 15 (some 49) (v := ?_) rfl rfl (by kernel_rfl) (by kernel_rfl) (by kernel_rfl) (fun _ _ _ h => h) ⟨by rfl, ?_⟩ hS ?_
      rotate_left
      · intro wq hSw; go_simp; try rfl
      simp only [Act.put, List.setIfInBounds_toArray, List.set_cons_zero, List.set_cons_succ]
      refine wpAnyH_done (by kernel_rfl) ?_ _
      cases ft
      · have hM2 : M = 10 := by simpa using HM.out
        clear HM
        subst hM2
        go_wp2_with fail
        go_ret
        exact ⟨rfl, B7.out⟩
      · have hM2 : M = 0 := by simpa using HM.out
        clear HM
        subst hM2
        go_wp2_with fail
        go_ret
        exact ⟨rfl, B7.out⟩

theorem rMay_any (b : Nat) (e : Esc) (a : Option Addr) (c : Nat) (tx d : Int) (w : World) (h : RE w b e a c) (hl : e.nets.length ≤ 1400) (hd : I64 d) :
    Calls Try.prog 47 #[ptr b, .int .i64 tx, .int .i64 d] w fun r w' => r = .returned (.int .i64 (mayE e tx d)) ∧ Below w.heap.size w w' := by
  by_cases ht : tx < 1 ∨ 2147483647 < tx
  · exact rMay_tx b e tx d w ht
  · exact rMay_in b e a c tx d w h hl hd ht
end Go.Proofs.Ytcnlcmdppkdmmaa
