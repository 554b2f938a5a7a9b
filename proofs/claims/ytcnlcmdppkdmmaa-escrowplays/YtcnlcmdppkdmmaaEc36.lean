import Derived.Test.YtcnlcmdppkdmmaaEc35
namespace Go.Proofs.Ytcnlcmdppkdmmaa
open Go.RowKit Go.QK Quota Go.Maps
set_option maxRecDepth 100000

abbrev tabS (v : Value) (l : List It) (x : Nat) : Prop := v.ownBlock = some x ∨ ∃ k, ∃ hk : k < l.length, (l[k]).own x
abbrev opV (kd E tx d : Int) : Value := .agg #[.int .i64 kd, .int .i64 E, .int .i64 tx, .int .i64 d]

set_option maxHeartbeats 16000000 in
theorem plays_any (B : Nat) (v : Value) (l : List It) (kd E tx d : Int) (N : Nat) (w : World) (h : Tab B w v l) (hB : B ≤ w.heap.size) (hl : 0 < l.length) (hl6 : l.length ≤ 6) (hc : kd = 5 → l.length ≤ 5) (hN : ∀ i (hi : i < l.length), (l[i]).e.nets.length ≤ N) (hN2 : N ≤ 1000) (hx : I64 tx) (hd : I64 d) :
    Calls Try.prog 34 #[v, opV kd E tx d] w fun r w' => ∃ v' l', r = .returned (.tuple #[v', .bool true]) ∧ Tab B w' v' l' ∧ 0 < l'.length ∧ l'.length ≤ 6 ∧ (∀ i (hi : i < l'.length), (l'[i]).e.nets.length ≤ N + 1) ∧ Keep (tabS v l) w w' := by
  have HT := hide h
  obtain ⟨a, c, rfl, hli, -⟩ := GRow.lies h.row
  have HRL := hide (fun g hg => (World.ownsRow.lt h.row g hg).2)
  have HOL := hide (fun i hi x hx => Nat.lt_of_lt_of_le ((h.all i hi).lt (x := x) hx) (Nat.le_add_right _ 2))
  have HOL0 := hide (fun i hi x hx => (h.all i hi).lt (x := x) hx)
  have HNN := hide hN
  have HCC := hide hc
  obtain ⟨k, hk9⟩ := turn_at E l.length hl
  have hk9 : k < l.length ∧ (¬ Int.tmod E l.length < 0 → Int.tmod E l.length = k) ∧ (Int.tmod E l.length < 0 → wrap64 (-(Int.tmod E l.length)) = k) := hk9.resolve_right (by omega)
  have hk := hk9.1
  have HK := hide hk9.2
  obtain ⟨Q, hQ⟩ : ∃ Q, Q = Int.tmod E l.length := ⟨_, rfl⟩
  rw [← hQ] at HK
  have HQ := hide hQ
  clear hk9 hQ h hN hc
  have n0 : ((l.length : Int) == 0) = false := by simp; intro r; rw [r] at hl; simp at hl
  go_enter Try.func34, Try.ntmps34
  go_upto_region 2 with fail
  rw [← HQ.out]
  clear HQ n0
  obtain ⟨w1, hw1⟩ : ∃ w1, w1 = w.alloc (.cells #[.int .i64 kd, .int .i64 E, .int .i64 tx, .int .i64 d] 69) := ⟨_, rfl⟩
  have X1 := hide (Cells.new w #[.int .i64 kd, .int .i64 E, .int .i64 tx, .int .i64 d] 69)
  have HT1 := hide (HT.out.below (alloc_below w (.cells #[.int .i64 kd, .int .i64 E, .int .i64 tx, .int .i64 d] 69)))
  have BL1 := hide (alloc_below w (.cells #[.int .i64 kd, .int .i64 E, .int .i64 tx, .int .i64 d] 69))
  have SZ1 := hide (show w1.heap.size = w.heap.size + 1 from by rw [hw1]; simp)
  rw [← hw1] at X1 HT1 BL1 ⊢
  clear hw1 HT
  go_upto_if 15 with fail
  go_cut [6] (fun s w' => s = .int .i64 (k : Int) ∧ w' = w1)
  case first =>
    by_cases hq : Q < 0
    · have HW := hide (HK.out.2 hq)
      go_wp2_with fail
      go_meet
      exact ⟨by rw [← HW.out], rfl⟩
    · have HW := hide (HK.out.1 hq)
      go_wp2_with fail
      go_meet
      exact ⟨by rw [← HW.out], rfl⟩
  case rest =>
    obtain ⟨hs, hwc⟩ := hcut
    subst hwc
    rw [hs]
    clear hs HK hli
    obtain ⟨w1, hw1⟩ : ∃ w1 : World, w1 = wc := ⟨_, rfl⟩
    subst hw1
    obtain ⟨a2, c2, q2, hli, -⟩ := GRow.lies HT1.out.row
    cases q2
    obtain ⟨bl, off, rfl, hlt, hcell⟩ := Lies.rowAt pairC 2 (fun _ => rfl) hli k hk (by omega)
    have y0 := hcell 0 _ rfl
    have y1 := hcell 1 _ rfl
    rw [Nat.add_zero] at y0
    obtain ⟨a, ha⟩ : ∃ a : Option Addr, a = some ⟨bl, off, none⟩ := ⟨_, rfl⟩
    obtain ⟨t, ht⟩ : ∃ t, t = l[k] := ⟨_, rfl⟩
    rw [← ht] at y0 y1
    have HTE := hide ht
    have HNT := hide (show t.e.nets.length ≤ N from by rw [ht]; exact HNN.out k hk)
    have OK1 := hide (show t.Ok w1 from by rw [ht]; exact HT1.out.all k hk)
    have HLT := hide (show t.b < w.heap.size ∧ t.m < w.heap.size ∧ t.r < w.heap.size from by
      have h1 := HOL0.out k hk
      rw [← ht] at h1
      exact ⟨h1 _ (.inl rfl), h1 _ (.inr (.inl rfl)), h1 _ (.inr (.inr (.inl rfl)))⟩)
    clear hcell hlt hli ht
    go_upto_region 5 with fail
    obtain ⟨w2, hw2⟩ : ∃ w2, w2 = w1.alloc (.cells #[ptr t.b, ptr t.r] 66) := ⟨_, rfl⟩
    have P2 := hide (Box.new w1 (ptr t.b) (ptr t.r) 66)
    have X2 := hide (X1.out.below (alloc_below w1 (.cells #[ptr t.b, ptr t.r] 66)))
    have HT2 := hide (HT1.out.below (alloc_below w1 (.cells #[ptr t.b, ptr t.r] 66)))
    have OK2 := hide (OK1.out.below (alloc_below w1 (.cells #[ptr t.b, ptr t.r] 66)))
    have BL2 := hide (BL1.out.alloc (by rw [SZ1.out]; omega) (.cells #[ptr t.b, ptr t.r] 66))
    have SZ2 := hide (show w.heap.size + 2 ≤ w2.heap.size from by rw [hw2]; simp; rw [SZ1.out]; omega)
    rw [← hw2] at P2 X2 HT2 OK2 BL2 ⊢
    rw [SZ1.out] at P2 ⊢
    clear hw2 X1 HT1 OK1 BL1 SZ1
    have e1 := (X2.out.get 0 _ rfl).1
    have KM := fun w' (h : PE w' t.b t.m t.e) => may_any t.b t.m t.e tx d w' h hx hd
    have KRM := fun w' (h : RE w' t.r t.e t.a t.c) => rMay_any t.r t.e t.a t.c tx d w' h (by have := HNT.out; omega) hd
    have KA := fun w' (h : PE w' t.b t.m t.e) => add_any' t.b t.m t.e tx d w' h hx hd (by have := HNT.out; omega)
    have KRA := fun w' (h : RE w' t.r t.e t.a t.c) => rAdd_any2 t.r t.e t.a t.c tx d w' h (by have := HNT.out; omega) hd
    have KS := fun w' (h : PE w' t.b t.m t.e) => settle_any t.b t.m t.e tx w' h hx
    have KRS := fun w' (h : RE w' t.r t.e t.a t.c) => rSettle_any t.r t.e t.a t.c tx w' h (by have := HNT.out; omega)
    have KL := fun w' (h : PE w' t.b t.m t.e) => release_any t.b t.m t.e tx w' h hx
    have KRL := fun w' (h : RE w' t.r t.e t.a t.c) => rRelease_any t.r t.e t.a t.c tx w' h (by have := HNT.out; omega)
    have KC := fun w' (h : PE w' t.b t.m t.e) => copy_any t.b t.m t.e w' h
    have KRC := fun w' (h : RE w' t.r t.e t.a t.c) => rCopy_any t.r t.e t.a t.c w' h (by have := HNT.out; omega)
    rw [← ha] at HT2 HRL ⊢
    have HA := hide ha
    clear ha
    by_cases z1 : kd = 1
    · subst z1
      clear HCC KA KRA KS KRS KL KRL KC KRC
      go_upto_region 7 with fail
      clear e1
      refine wp_region_held_drew (S := fun wq => wq.cell? ⟨w.heap.size, 2, none⟩ = some (.int .i64 tx) ∧ wq.cell? ⟨w.heap.size, 3, none⟩ = some (.int .i64 d) ∧ wq.cell? ⟨w.heap.size + 1, 0, none⟩ = some (ptr t.b) ∧ wq.cell? ⟨w.heap.size + 1, 1, none⟩ = some (ptr t.r)) (by kernel_rfl) ⟨(X2.out.get 2 _ rfl).1, (X2.out.get 3 _ rfl).1, P2.out.2.1, P2.out.2.2.1⟩ (fun hS => ?_)
      have OK5 := hide (OK2.out.below (Below.refl _ _).drew)
      have X5 := hide (X2.out.below (Below.refl _ _).drew)
      have P5 := hide (P2.out.below (Below.refl _ _).drew)
      have HT5 := hide (HT2.out.below (Below.refl _ _).drew)
      have BL5 := hide BL2.out.drew
      have sz5 : w.heap.size + 2 ≤ w2.drew.heap.size := SZ2.out
      clear OK2 X2 P2 HT2 BL2 y0 y1
      generalize w2.drew = w5 at *
      refine take_at 0 (some 26) (v := ?_) rfl rfl (by kernel_rfl) (by kernel_rfl) (by kernel_rfl) (fun _ _ _ h => h) ⟨by rfl, ?_⟩ hS ?_
      rotate_left
      · intro wq hSw; go_simp; try rfl
      simp only [Act.put, List.setIfInBounds_toArray, List.set_cons_zero, List.set_cons_succ]
      refine take_at 1 (some 27) (v := ?_) rfl rfl (by kernel_rfl) (by kernel_rfl) (by kernel_rfl) (fun _ _ _ h => h) ⟨by rfl, ?_⟩ hS ?_
      rotate_left
      · intro wq hSw; go_simp; try rfl
      simp only [Act.put, List.setIfInBounds_toArray, List.set_cons_zero, List.set_cons_succ]
      refine take_at 2 (some 28) (v := ?_) rfl rfl (by kernel_rfl) (by kernel_rfl) (by kernel_rfl) (fun _ _ _ h => h) ⟨by rfl, ?_⟩ hS ?_
      rotate_left
      · intro wq hSw; obtain ⟨r0, r1, r2, r3⟩ := hSw; go_simp; try rfl
      simp only [Act.put, List.setIfInBounds_toArray, List.set_cons_zero, List.set_cons_succ]
      refine take_at 3 (some 29) (v := ?_) rfl rfl (by kernel_rfl) (by kernel_rfl) (by kernel_rfl) (fun _ _ _ h => h) ⟨by rfl, ?_⟩ hS ?_
      rotate_left
      · intro wq hSw; go_simp; try rfl
      simp only [Act.put, List.setIfInBounds_toArray, List.set_cons_zero, List.set_cons_succ]
      refine take_at 4 (some 30) (v := ?_) rfl rfl (by kernel_rfl) (by kernel_rfl) (by kernel_rfl) (fun _ _ _ h => h) ⟨by rfl, ?_⟩ hS ?_
      rotate_left
      · intro wq hSw; obtain ⟨r0, r1, r2, r3⟩ := hSw; go_simp; try rfl
      simp only [Act.put, List.setIfInBounds_toArray, List.set_cons_zero, List.set_cons_succ]
      refine take_at 5 (some 31) (v := ?_) rfl rfl (by kernel_rfl) (by kernel_rfl) (by kernel_rfl) (fun _ _ _ h => h) ⟨by rfl, ?_⟩ hS ?_
      rotate_left
      · intro wq hSw; go_simp; try rfl
      simp only [Act.put, List.setIfInBounds_toArray, List.set_cons_zero, List.set_cons_succ]
      refine take_at 6 (some 32) (v := ?_) rfl rfl (by kernel_rfl) (by kernel_rfl) (by kernel_rfl) (fun _ _ _ h => h) ⟨by rfl, ?_⟩ hS ?_
      rotate_left
      · intro wq hSw; obtain ⟨r0, r1, r2, r3⟩ := hSw; go_simp; try rfl
      simp only [Act.put, List.setIfInBounds_toArray, List.set_cons_zero, List.set_cons_succ]
      refine take_at 8 (some 34) (v := ?_) rfl rfl (by kernel_rfl) (by kernel_rfl) (by kernel_rfl) (fun _ _ _ h => h) ⟨by rfl, ?_⟩ hS ?_
      rotate_left
      · intro wq hSw; go_simp; try rfl
      simp only [Act.put, List.setIfInBounds_toArray, List.set_cons_zero, List.set_cons_succ]
      refine take_at 9 (some 35) (v := ?_) rfl rfl (by kernel_rfl) (by kernel_rfl) (by kernel_rfl) (fun _ _ _ h => h) ⟨by rfl, ?_⟩ hS ?_
      rotate_left
      · intro wq hSw; obtain ⟨r0, r1, r2, r3⟩ := hSw; go_simp; try rfl
      simp only [Act.put, List.setIfInBounds_toArray, List.set_cons_zero, List.set_cons_succ]
      refine take_at 10 (some 36) (v := ?_) rfl rfl (by kernel_rfl) (by kernel_rfl) (by kernel_rfl) (fun _ _ _ h => h) ⟨by rfl, ?_⟩ hS ?_
      rotate_left
      · intro wq hSw; go_simp; try rfl
      simp only [Act.put, List.setIfInBounds_toArray, List.set_cons_zero, List.set_cons_succ]
      refine take_at 11 (some 37) (v := ?_) rfl rfl (by kernel_rfl) (by kernel_rfl) (by kernel_rfl) (fun _ _ _ h => h) ⟨by rfl, ?_⟩ hS ?_
      rotate_left
      · intro wq hSw; obtain ⟨r0, r1, r2, r3⟩ := hSw; go_simp; try rfl
      simp only [Act.put, List.setIfInBounds_toArray, List.set_cons_zero, List.set_cons_succ]
      refine take_at 12 (some 38) (v := ?_) rfl rfl (by kernel_rfl) (by kernel_rfl) (by kernel_rfl) (fun _ _ _ h => h) ⟨by rfl, ?_⟩ hS ?_
      rotate_left
      · intro wq hSw; go_simp; try rfl
      simp only [Act.put, List.setIfInBounds_toArray, List.set_cons_zero, List.set_cons_succ]
      refine take_at 13 (some 39) (v := ?_) rfl rfl (by kernel_rfl) (by kernel_rfl) (by kernel_rfl) (fun _ _ _ h => h) ⟨by rfl, ?_⟩ hS ?_
      rotate_left
      · intro wq hSw; obtain ⟨r0, r1, r2, r3⟩ := hSw; go_simp; try rfl
      simp only [Act.put, List.setIfInBounds_toArray, List.set_cons_zero, List.set_cons_succ]
      refine wpAnyH_ready (rs := [7]) (by kernel_rfl) (by simp) ?_
      refine AllReadyH.cons rfl (fun K hK => ?_) AllReadyH.nil
      go_simp
      go_wp2_with fail
      refine (KM _ OK5.out.duo.pe).mono ?_
      rintro r x6 ⟨rfl, hh⟩
      have OK6 := hide (OK5.out.below hh)
      have X6 := hide (X5.out.below hh)
      have P6 := hide (P5.out.below hh)
      have HT6 := hide (HT5.out.below hh)
      have BL6 := hide (BL5.out.trans (hh.mono BL5.out.size))
      clear hh OK5 X5 P5 HT5 BL5
      go_wp2_with fail
      refine hK.out _ _ ⟨(X6.out.get 2 _ rfl).1, (X6.out.get 3 _ rfl).1, P6.out.2.1, P6.out.2.2.1⟩ (fun hS => ?_)
      clear hK K
      (try simp only [Act.put, List.setIfInBounds_toArray, List.set_cons_zero, List.set_cons_succ])
      refine wpAnyH_ready (rs := [14]) (by kernel_rfl) (by simp) ?_
      refine AllReadyH.cons rfl (fun K hK => ?_) AllReadyH.nil
      go_simp
      go_wp2_with fail
      refine (KRM _ OK6.out.duo.re).mono ?_
      rintro r x7 ⟨rfl, hh⟩
      have OK7 := hide (OK6.out.below hh)
      have X7 := hide (X6.out.below hh)
      have P7 := hide (P6.out.below hh)
      have HT7 := hide (HT6.out.below hh)
      have BL7 := hide (BL6.out.trans (hh.mono BL6.out.size))
      clear hh OK6 X6 P6 HT6 BL6
      go_wp2_with fail
      refine hK.out _ _ ⟨(X7.out.get 2 _ rfl).1, (X7.out.get 3 _ rfl).1, P7.out.2.1, P7.out.2.2.1⟩ (fun hS => ?_)
      clear hK K
      (try simp only [Act.put, List.setIfInBounds_toArray, List.set_cons_zero, List.set_cons_succ])
      refine take_at 15 (some 41) (v := ?_) rfl rfl (by kernel_rfl) (by kernel_rfl) (by kernel_rfl) (fun _ _ _ h => h) ⟨by rfl, ?_⟩ hS ?_
      rotate_left
      · intro wq hSw; go_simp; try rfl
      simp only [Act.put, List.setIfInBounds_toArray, List.set_cons_zero, List.set_cons_succ]
      refine take_at 16 (some 4) (v := ?_) rfl rfl (by kernel_rfl) (by kernel_rfl) (by kernel_rfl) (fun _ _ _ h => h) ⟨by rfl, ?_⟩ hS ?_
      rotate_left
      · intro wq hSw; go_simp; try rfl
      simp only [Act.put, List.setIfInBounds_toArray, List.set_cons_zero, List.set_cons_succ]
      refine take_at 17 (some 5) (v := ?_) rfl rfl (by kernel_rfl) (by kernel_rfl) (by kernel_rfl) (fun _ _ _ h => h) ⟨by rfl, ?_⟩ hS ?_
      rotate_left
      · intro wq hSw; go_simp; try rfl
      simp only [Act.put, List.setIfInBounds_toArray, List.set_cons_zero, List.set_cons_succ]
      refine wpAnyH_done (by kernel_rfl) ?_ _
      go_wp2_with fail
      go_ret2
      exact ⟨_, l, by simp, HT7.out, hl, hl6, fun i hi => Nat.le_succ_of_le (HNN.out i hi), Keep.of_below BL7.out⟩
    · have z1' : (kd == 1) = false := by simpa using z1
      by_cases z2 : kd = 2
      · subst z2
        clear HCC KM KRM KS KRS KL KRL KC KRC z1 z1'
        go_upto_region 9 with fail
        clear e1
        refine wp_region_held_drew (S := fun wq => wq.cell? ⟨w.heap.size, 2, none⟩ = some (.int .i64 tx) ∧ wq.cell? ⟨w.heap.size, 3, none⟩ = some (.int .i64 d) ∧ wq.cell? ⟨w.heap.size + 1, 0, none⟩ = some (ptr t.b) ∧ wq.cell? ⟨w.heap.size + 1, 1, none⟩ = some (ptr t.r)) (by kernel_rfl) ⟨(X2.out.get 2 _ rfl).1, (X2.out.get 3 _ rfl).1, P2.out.2.1, P2.out.2.2.1⟩ (fun hS => ?_)
        have OK5 := hide (OK2.out.below (Below.refl _ _).drew)
        have X5 := hide (X2.out.below (Below.refl _ _).drew)
        have P5 := hide (P2.out.below (Below.refl _ _).drew)
        have HT5 := hide (HT2.out.below (Below.refl _ _).drew)
        have BL5 := hide BL2.out.drew
        have sz5 : w.heap.size + 2 ≤ w2.drew.heap.size := SZ2.out
        clear OK2 X2 P2 HT2 BL2 y0 y1
        generalize w2.drew = w5 at *
        refine take_at 0 (some 44) (v := ?_) rfl rfl (by kernel_rfl) (by kernel_rfl) (by kernel_rfl) (fun _ _ _ h => h) ⟨by rfl, ?_⟩ hS ?_
        rotate_left
        · intro wq hSw; go_simp; try rfl
        simp only [Act.put, List.setIfInBounds_toArray, List.set_cons_zero, List.set_cons_succ]
        refine take_at 1 (some 45) (v := ?_) rfl rfl (by kernel_rfl) (by kernel_rfl) (by kernel_rfl) (fun _ _ _ h => h) ⟨by rfl, ?_⟩ hS ?_
        rotate_left
        · intro wq hSw; go_simp; try rfl
        simp only [Act.put, List.setIfInBounds_toArray, List.set_cons_zero, List.set_cons_succ]
        refine take_at 2 (some 46) (v := ?_) rfl rfl (by kernel_rfl) (by kernel_rfl) (by kernel_rfl) (fun _ _ _ h => h) ⟨by rfl, ?_⟩ hS ?_
        rotate_left
        · intro wq hSw; obtain ⟨r0, r1, r2, r3⟩ := hSw; go_simp; try rfl
        simp only [Act.put, List.setIfInBounds_toArray, List.set_cons_zero, List.set_cons_succ]
        refine take_at 3 (some 47) (v := ?_) rfl rfl (by kernel_rfl) (by kernel_rfl) (by kernel_rfl) (fun _ _ _ h => h) ⟨by rfl, ?_⟩ hS ?_
        rotate_left
        · intro wq hSw; go_simp; try rfl
        simp only [Act.put, List.setIfInBounds_toArray, List.set_cons_zero, List.set_cons_succ]
        refine take_at 4 (some 48) (v := ?_) rfl rfl (by kernel_rfl) (by kernel_rfl) (by kernel_rfl) (fun _ _ _ h => h) ⟨by rfl, ?_⟩ hS ?_
        rotate_left
        · intro wq hSw; obtain ⟨r0, r1, r2, r3⟩ := hSw; go_simp; try rfl
        simp only [Act.put, List.setIfInBounds_toArray, List.set_cons_zero, List.set_cons_succ]
        refine take_at 5 (some 49) (v := ?_) rfl rfl (by kernel_rfl) (by kernel_rfl) (by kernel_rfl) (fun _ _ _ h => h) ⟨by rfl, ?_⟩ hS ?_
        rotate_left
        · intro wq hSw; go_simp; try rfl
        simp only [Act.put, List.setIfInBounds_toArray, List.set_cons_zero, List.set_cons_succ]
        refine take_at 6 (some 50) (v := ?_) rfl rfl (by kernel_rfl) (by kernel_rfl) (by kernel_rfl) (fun _ _ _ h => h) ⟨by rfl, ?_⟩ hS ?_
        rotate_left
        · intro wq hSw; obtain ⟨r0, r1, r2, r3⟩ := hSw; go_simp; try rfl
        simp only [Act.put, List.setIfInBounds_toArray, List.set_cons_zero, List.set_cons_succ]
        refine take_at 8 (some 52) (v := ?_) rfl rfl (by kernel_rfl) (by kernel_rfl) (by kernel_rfl) (fun _ _ _ h => h) ⟨by rfl, ?_⟩ hS ?_
        rotate_left
        · intro wq hSw; go_simp; try rfl
        simp only [Act.put, List.setIfInBounds_toArray, List.set_cons_zero, List.set_cons_succ]
        refine take_at 9 (some 53) (v := ?_) rfl rfl (by kernel_rfl) (by kernel_rfl) (by kernel_rfl) (fun _ _ _ h => h) ⟨by rfl, ?_⟩ hS ?_
        rotate_left
        · intro wq hSw; obtain ⟨r0, r1, r2, r3⟩ := hSw; go_simp; try rfl
        simp only [Act.put, List.setIfInBounds_toArray, List.set_cons_zero, List.set_cons_succ]
        refine take_at 10 (some 54) (v := ?_) rfl rfl (by kernel_rfl) (by kernel_rfl) (by kernel_rfl) (fun _ _ _ h => h) ⟨by rfl, ?_⟩ hS ?_
        rotate_left
        · intro wq hSw; go_simp; try rfl
        simp only [Act.put, List.setIfInBounds_toArray, List.set_cons_zero, List.set_cons_succ]
        refine take_at 11 (some 55) (v := ?_) rfl rfl (by kernel_rfl) (by kernel_rfl) (by kernel_rfl) (fun _ _ _ h => h) ⟨by rfl, ?_⟩ hS ?_
        rotate_left
        · intro wq hSw; obtain ⟨r0, r1, r2, r3⟩ := hSw; go_simp; try rfl
        simp only [Act.put, List.setIfInBounds_toArray, List.set_cons_zero, List.set_cons_succ]
        refine take_at 12 (some 56) (v := ?_) rfl rfl (by kernel_rfl) (by kernel_rfl) (by kernel_rfl) (fun _ _ _ h => h) ⟨by rfl, ?_⟩ hS ?_
        rotate_left
        · intro wq hSw; go_simp; try rfl
        simp only [Act.put, List.setIfInBounds_toArray, List.set_cons_zero, List.set_cons_succ]
        refine take_at 13 (some 57) (v := ?_) rfl rfl (by kernel_rfl) (by kernel_rfl) (by kernel_rfl) (fun _ _ _ h => h) ⟨by rfl, ?_⟩ hS ?_
        rotate_left
        · intro wq hSw; obtain ⟨r0, r1, r2, r3⟩ := hSw; go_simp; try rfl
        simp only [Act.put, List.setIfInBounds_toArray, List.set_cons_zero, List.set_cons_succ]
        refine wpAnyH_ready (rs := [7]) (by kernel_rfl) (by simp) ?_
        refine AllReadyH.cons rfl (fun K hK => ?_) AllReadyH.nil
        go_simp
        go_wp2_with fail
        refine (KA _ OK5.out.duo.pe).mono ?_
        rintro r x6 ⟨rfl, k6, p6⟩
        have R6 := hide (OK5.out.mid k6)
        have X6 := hide (X5.out.keep k6 (fun q9 => by have := HLT.out; rcases q9 with q9 | q9 <;> omega))
        have P6 := hide (P5.out.keep k6 (fun q9 => by have := HLT.out; rcases q9 with q9 | q9 <;> omega))
        have K6 := hide k6
        have PE6 := hide p6
        clear k6 p6
        go_wp2_with fail
        refine hK.out _ _ ⟨(X6.out.get 2 _ rfl).1, (X6.out.get 3 _ rfl).1, P6.out.2.1, P6.out.2.2.1⟩ (fun hS => ?_)
        clear hK K
        (try simp only [Act.put, List.setIfInBounds_toArray, List.set_cons_zero, List.set_cons_succ])
        refine wpAnyH_ready (rs := [14]) (by kernel_rfl) (by simp) ?_
        refine AllReadyH.cons rfl (fun K hK => ?_) AllReadyH.nil
        go_simp
        go_wp2_with fail
        refine (KRA _ R6.out).mono ?_
        rintro r x7 ⟨a', c', rfl, r7, ha, k7⟩
        have TU := OK5.out.turn K6.out PE6.out k7 r7 ha
        have X7 := hide (X6.out.keep k7 (fun q9 => by have := HLT.out; omega))
        have P7 := hide (P6.out.keep k7 (fun q9 => by have := HLT.out; omega))
        have HT7 := hide (HT5.out.turn hk (by rw [← HTE.out]) (by rw [← HTE.out]) TU.1 (by rw [← HTE.out]; exact TU.2.1) (by rw [← HTE.out]; exact TU.2.2) (by omega))
        have TK := hide TU.2.1
        clear TU r7 ha k7 R6 K6 PE6 OK5 HT5
        go_wp2_with fail
        refine hK.out _ _ ⟨(X7.out.get 2 _ rfl).1, (X7.out.get 3 _ rfl).1, P7.out.2.1, P7.out.2.2.1⟩ (fun hS => ?_)
        clear hK K
        (try simp only [Act.put, List.setIfInBounds_toArray, List.set_cons_zero, List.set_cons_succ])
        refine take_at 15 (some 59) (v := ?_) rfl rfl (by kernel_rfl) (by kernel_rfl) (by kernel_rfl) (fun _ _ _ h => h) ⟨by rfl, ?_⟩ hS ?_
        rotate_left
        · intro wq hSw; go_simp; try rfl
        simp only [Act.put, List.setIfInBounds_toArray, List.set_cons_zero, List.set_cons_succ]
        refine take_at 16 (some 4) (v := ?_) rfl rfl (by kernel_rfl) (by kernel_rfl) (by kernel_rfl) (fun _ _ _ h => h) ⟨by rfl, ?_⟩ hS ?_
        rotate_left
        · intro wq hSw; go_simp; try rfl
        simp only [Act.put, List.setIfInBounds_toArray, List.set_cons_zero, List.set_cons_succ]
        refine take_at 17 (some 5) (v := ?_) rfl rfl (by kernel_rfl) (by kernel_rfl) (by kernel_rfl) (fun _ _ _ h => h) ⟨by rfl, ?_⟩ hS ?_
        rotate_left
        · intro wq hSw; go_simp; try rfl
        simp only [Act.put, List.setIfInBounds_toArray, List.set_cons_zero, List.set_cons_succ]
        refine wpAnyH_done (by kernel_rfl) ?_ _
        go_wp2_with fail
        go_ret2
        refine ⟨_, l.set k ⟨t.b, t.m, t.r, addN t.e tx d, a', c'⟩, rfl, HT7.out, by rw [List.length_set]; exact hl, by rw [List.length_set]; exact hl6, ?_, ?_⟩
        · intro i hi
          rw [List.length_set] at hi
          rw [List.getElem_set]
          split
          · exact Nat.le_trans (addN_len t.e tx d) (Nat.succ_le_succ HNT.out)
          · exact Nat.le_succ_of_le (HNN.out i hi)
        · have K9 := (Keep.of_below (S := tabS (.slice a l.length c) l) BL5.out).trans TK.out (fun x _ q9 => .inr ⟨k, hk, by rw [← HTE.out]; exact It.trio_own q9⟩)
          rw [HA.out] at K9
          exact K9
      · have z2' : (kd == 2) = false := by simpa using z2
        by_cases z3 : kd = 3
        · subst z3
          clear HCC KA KRA KM KRM KL KRL KC KRC z1 z1' z2 z2'
          go_upto_region 11 with fail
          clear e1
          refine wp_region_held_drew (S := fun wq => wq.cell? ⟨w.heap.size, 2, none⟩ = some (.int .i64 tx) ∧ wq.cell? ⟨w.heap.size, 3, none⟩ = some (.int .i64 d) ∧ wq.cell? ⟨w.heap.size + 1, 0, none⟩ = some (ptr t.b) ∧ wq.cell? ⟨w.heap.size + 1, 1, none⟩ = some (ptr t.r)) (by kernel_rfl) ⟨(X2.out.get 2 _ rfl).1, (X2.out.get 3 _ rfl).1, P2.out.2.1, P2.out.2.2.1⟩ (fun hS => ?_)
          have OK5 := hide (OK2.out.below (Below.refl _ _).drew)
          have X5 := hide (X2.out.below (Below.refl _ _).drew)
          have P5 := hide (P2.out.below (Below.refl _ _).drew)
          have HT5 := hide (HT2.out.below (Below.refl _ _).drew)
          have BL5 := hide BL2.out.drew
          have sz5 : w.heap.size + 2 ≤ w2.drew.heap.size := SZ2.out
          clear OK2 X2 P2 HT2 BL2 y0 y1
          generalize w2.drew = w5 at *
          refine take_at 0 (some 62) (v := ?_) rfl rfl (by kernel_rfl) (by kernel_rfl) (by kernel_rfl) (fun _ _ _ h => h) ⟨by rfl, ?_⟩ hS ?_
          rotate_left
          · intro wq hSw; go_simp; try rfl
          simp only [Act.put, List.setIfInBounds_toArray, List.set_cons_zero, List.set_cons_succ]
          refine take_at 1 (some 63) (v := ?_) rfl rfl (by kernel_rfl) (by kernel_rfl) (by kernel_rfl) (fun _ _ _ h => h) ⟨by rfl, ?_⟩ hS ?_
          rotate_left
          · intro wq hSw; go_simp; try rfl
          simp only [Act.put, List.setIfInBounds_toArray, List.set_cons_zero, List.set_cons_succ]
          refine take_at 2 (some 64) (v := ?_) rfl rfl (by kernel_rfl) (by kernel_rfl) (by kernel_rfl) (fun _ _ _ h => h) ⟨by rfl, ?_⟩ hS ?_
          rotate_left
          · intro wq hSw; obtain ⟨r0, r1, r2, r3⟩ := hSw; go_simp; try rfl
          simp only [Act.put, List.setIfInBounds_toArray, List.set_cons_zero, List.set_cons_succ]
          refine take_at 3 (some 65) (v := ?_) rfl rfl (by kernel_rfl) (by kernel_rfl) (by kernel_rfl) (fun _ _ _ h => h) ⟨by rfl, ?_⟩ hS ?_
          rotate_left
          · intro wq hSw; go_simp; try rfl
          simp only [Act.put, List.setIfInBounds_toArray, List.set_cons_zero, List.set_cons_succ]
          refine take_at 4 (some 66) (v := ?_) rfl rfl (by kernel_rfl) (by kernel_rfl) (by kernel_rfl) (fun _ _ _ h => h) ⟨by rfl, ?_⟩ hS ?_
          rotate_left
          · intro wq hSw; obtain ⟨r0, r1, r2, r3⟩ := hSw; go_simp; try rfl
          simp only [Act.put, List.setIfInBounds_toArray, List.set_cons_zero, List.set_cons_succ]
          refine take_at 6 (some 68) (v := ?_) rfl rfl (by kernel_rfl) (by kernel_rfl) (by kernel_rfl) (fun _ _ _ h => h) ⟨by rfl, ?_⟩ hS ?_
          rotate_left
          · intro wq hSw; go_simp; try rfl
          simp only [Act.put, List.setIfInBounds_toArray, List.set_cons_zero, List.set_cons_succ]
          refine take_at 7 (some 69) (v := ?_) rfl rfl (by kernel_rfl) (by kernel_rfl) (by kernel_rfl) (fun _ _ _ h => h) ⟨by rfl, ?_⟩ hS ?_
          rotate_left
          · intro wq hSw; obtain ⟨r0, r1, r2, r3⟩ := hSw; go_simp; try rfl
          simp only [Act.put, List.setIfInBounds_toArray, List.set_cons_zero, List.set_cons_succ]
          refine take_at 8 (some 70) (v := ?_) rfl rfl (by kernel_rfl) (by kernel_rfl) (by kernel_rfl) (fun _ _ _ h => h) ⟨by rfl, ?_⟩ hS ?_
          rotate_left
          · intro wq hSw; go_simp; try rfl
          simp only [Act.put, List.setIfInBounds_toArray, List.set_cons_zero, List.set_cons_succ]
          refine take_at 9 (some 71) (v := ?_) rfl rfl (by kernel_rfl) (by kernel_rfl) (by kernel_rfl) (fun _ _ _ h => h) ⟨by rfl, ?_⟩ hS ?_
          rotate_left
          · intro wq hSw; obtain ⟨r0, r1, r2, r3⟩ := hSw; go_simp; try rfl
          simp only [Act.put, List.setIfInBounds_toArray, List.set_cons_zero, List.set_cons_succ]
          refine wpAnyH_ready (rs := [5]) (by kernel_rfl) (by simp) ?_
          refine AllReadyH.cons rfl (fun K hK => ?_) AllReadyH.nil
          go_simp
          go_wp2_with fail
          refine (KS _ OK5.out.duo.pe).mono ?_
          rintro r x6 ⟨rfl, k6, p6⟩
          have R6 := hide (OK5.out.mid k6)
          have X6 := hide (X5.out.keep k6 (fun q9 => by have := HLT.out; rcases q9 with q9 | q9 <;> omega))
          have P6 := hide (P5.out.keep k6 (fun q9 => by have := HLT.out; rcases q9 with q9 | q9 <;> omega))
          have K6 := hide k6
          have PE6 := hide p6
          clear k6 p6
          go_wp2_with fail
          refine hK.out _ _ ⟨(X6.out.get 2 _ rfl).1, (X6.out.get 3 _ rfl).1, P6.out.2.1, P6.out.2.2.1⟩ (fun hS => ?_)
          clear hK K
          (try simp only [Act.put, List.setIfInBounds_toArray, List.set_cons_zero, List.set_cons_succ])
          refine wpAnyH_ready (rs := [10]) (by kernel_rfl) (by simp) ?_
          refine AllReadyH.cons rfl (fun K hK => ?_) AllReadyH.nil
          go_simp
          go_wp2_with fail
          refine (KRS _ R6.out).mono ?_
          rintro r x7 ⟨a', c', rfl, r7, ha, k7⟩
          have TU := OK5.out.turn K6.out PE6.out k7 r7 (fun hn ad hd => (ha ad hd).elim (fun q => .inl ⟨q, setN_nil hn⟩) .inr)
          have X7 := hide (X6.out.keep k7 (fun q9 => by have := HLT.out; omega))
          have P7 := hide (P6.out.keep k7 (fun q9 => by have := HLT.out; omega))
          have HT7 := hide (HT5.out.turn hk (by rw [← HTE.out]) (by rw [← HTE.out]) TU.1 (by rw [← HTE.out]; exact TU.2.1) (by rw [← HTE.out]; exact TU.2.2) (by omega))
          have TK := hide TU.2.1
          clear TU r7 ha k7 R6 K6 PE6 OK5 HT5
          go_wp2_with fail
          refine hK.out _ _ ⟨(X7.out.get 2 _ rfl).1, (X7.out.get 3 _ rfl).1, P7.out.2.1, P7.out.2.2.1⟩ (fun hS => ?_)
          clear hK K
          (try simp only [Act.put, List.setIfInBounds_toArray, List.set_cons_zero, List.set_cons_succ])
          refine take_at 11 (some 73) (v := ?_) rfl rfl (by kernel_rfl) (by kernel_rfl) (by kernel_rfl) (fun _ _ _ h => h) ⟨by rfl, ?_⟩ hS ?_
          rotate_left
          · intro wq hSw; go_simp; try rfl
          simp only [Act.put, List.setIfInBounds_toArray, List.set_cons_zero, List.set_cons_succ]
          refine take_at 12 (some 4) (v := ?_) rfl rfl (by kernel_rfl) (by kernel_rfl) (by kernel_rfl) (fun _ _ _ h => h) ⟨by rfl, ?_⟩ hS ?_
          rotate_left
          · intro wq hSw; go_simp; try rfl
          simp only [Act.put, List.setIfInBounds_toArray, List.set_cons_zero, List.set_cons_succ]
          refine take_at 13 (some 5) (v := ?_) rfl rfl (by kernel_rfl) (by kernel_rfl) (by kernel_rfl) (fun _ _ _ h => h) ⟨by rfl, ?_⟩ hS ?_
          rotate_left
          · intro wq hSw; go_simp; try rfl
          simp only [Act.put, List.setIfInBounds_toArray, List.set_cons_zero, List.set_cons_succ]
          refine wpAnyH_done (by kernel_rfl) ?_ _
          go_wp2_with fail
          go_ret2
          refine ⟨_, l.set k ⟨t.b, t.m, t.r, setN t.e tx, a', c'⟩, rfl, HT7.out, by rw [List.length_set]; exact hl, by rw [List.length_set]; exact hl6, ?_, ?_⟩
          · intro i hi
            rw [List.length_set] at hi
            rw [List.getElem_set]
            split
            · exact Nat.le_succ_of_le (Nat.le_trans (setN_len t.e tx) HNT.out)
            · exact Nat.le_succ_of_le (HNN.out i hi)
          · have K9 := (Keep.of_below (S := tabS (.slice a l.length c) l) BL5.out).trans TK.out (fun x _ q9 => .inr ⟨k, hk, by rw [← HTE.out]; exact It.trio_own q9⟩)
            rw [HA.out] at K9
            exact K9
        · have z3' : (kd == 3) = false := by simpa using z3
          by_cases z4 : kd = 4
          · subst z4
            clear HCC KA KRA KS KRS KM KRM KC KRC z1 z1' z2 z2' z3 z3'
            go_upto_region 13 with fail
            clear e1
            refine wp_region_held_drew (S := fun wq => wq.cell? ⟨w.heap.size, 2, none⟩ = some (.int .i64 tx) ∧ wq.cell? ⟨w.heap.size, 3, none⟩ = some (.int .i64 d) ∧ wq.cell? ⟨w.heap.size + 1, 0, none⟩ = some (ptr t.b) ∧ wq.cell? ⟨w.heap.size + 1, 1, none⟩ = some (ptr t.r)) (by kernel_rfl) ⟨(X2.out.get 2 _ rfl).1, (X2.out.get 3 _ rfl).1, P2.out.2.1, P2.out.2.2.1⟩ (fun hS => ?_)
            have OK5 := hide (OK2.out.below (Below.refl _ _).drew)
            have X5 := hide (X2.out.below (Below.refl _ _).drew)
            have P5 := hide (P2.out.below (Below.refl _ _).drew)
            have HT5 := hide (HT2.out.below (Below.refl _ _).drew)
            have BL5 := hide BL2.out.drew
            have sz5 : w.heap.size + 2 ≤ w2.drew.heap.size := SZ2.out
            clear OK2 X2 P2 HT2 BL2 y0 y1
            generalize w2.drew = w5 at *
            refine take_at 0 (some 76) (v := ?_) rfl rfl (by kernel_rfl) (by kernel_rfl) (by kernel_rfl) (fun _ _ _ h => h) ⟨by rfl, ?_⟩ hS ?_
            rotate_left
            · intro wq hSw; go_simp; try rfl
            simp only [Act.put, List.setIfInBounds_toArray, List.set_cons_zero, List.set_cons_succ]
            refine take_at 1 (some 77) (v := ?_) rfl rfl (by kernel_rfl) (by kernel_rfl) (by kernel_rfl) (fun _ _ _ h => h) ⟨by rfl, ?_⟩ hS ?_
            rotate_left
            · intro wq hSw; go_simp; try rfl
            simp only [Act.put, List.setIfInBounds_toArray, List.set_cons_zero, List.set_cons_succ]
            refine take_at 2 (some 78) (v := ?_) rfl rfl (by kernel_rfl) (by kernel_rfl) (by kernel_rfl) (fun _ _ _ h => h) ⟨by rfl, ?_⟩ hS ?_
            rotate_left
            · intro wq hSw; obtain ⟨r0, r1, r2, r3⟩ := hSw; go_simp; try rfl
            simp only [Act.put, List.setIfInBounds_toArray, List.set_cons_zero, List.set_cons_succ]
            refine take_at 3 (some 79) (v := ?_) rfl rfl (by kernel_rfl) (by kernel_rfl) (by kernel_rfl) (fun _ _ _ h => h) ⟨by rfl, ?_⟩ hS ?_
            rotate_left
            · intro wq hSw; go_simp; try rfl
            simp only [Act.put, List.setIfInBounds_toArray, List.set_cons_zero, List.set_cons_succ]
            refine take_at 4 (some 80) (v := ?_) rfl rfl (by kernel_rfl) (by kernel_rfl) (by kernel_rfl) (fun _ _ _ h => h) ⟨by rfl, ?_⟩ hS ?_
            rotate_left
            · intro wq hSw; obtain ⟨r0, r1, r2, r3⟩ := hSw; go_simp; try rfl
            simp only [Act.put, List.setIfInBounds_toArray, List.set_cons_zero, List.set_cons_succ]
            refine take_at 6 (some 82) (v := ?_) rfl rfl (by kernel_rfl) (by kernel_rfl) (by kernel_rfl) (fun _ _ _ h => h) ⟨by rfl, ?_⟩ hS ?_
            rotate_left
            · intro wq hSw; go_simp; try rfl
            simp only [Act.put, List.setIfInBounds_toArray, List.set_cons_zero, List.set_cons_succ]
            refine take_at 7 (some 83) (v := ?_) rfl rfl (by kernel_rfl) (by kernel_rfl) (by kernel_rfl) (fun _ _ _ h => h) ⟨by rfl, ?_⟩ hS ?_
            rotate_left
            · intro wq hSw; obtain ⟨r0, r1, r2, r3⟩ := hSw; go_simp; try rfl
            simp only [Act.put, List.setIfInBounds_toArray, List.set_cons_zero, List.set_cons_succ]
            refine take_at 8 (some 84) (v := ?_) rfl rfl (by kernel_rfl) (by kernel_rfl) (by kernel_rfl) (fun _ _ _ h => h) ⟨by rfl, ?_⟩ hS ?_
            rotate_left
            · intro wq hSw; go_simp; try rfl
            simp only [Act.put, List.setIfInBounds_toArray, List.set_cons_zero, List.set_cons_succ]
            refine take_at 9 (some 85) (v := ?_) rfl rfl (by kernel_rfl) (by kernel_rfl) (by kernel_rfl) (fun _ _ _ h => h) ⟨by rfl, ?_⟩ hS ?_
            rotate_left
            · intro wq hSw; obtain ⟨r0, r1, r2, r3⟩ := hSw; go_simp; try rfl
            simp only [Act.put, List.setIfInBounds_toArray, List.set_cons_zero, List.set_cons_succ]
            refine wpAnyH_ready (rs := [5]) (by kernel_rfl) (by simp) ?_
            refine AllReadyH.cons rfl (fun K hK => ?_) AllReadyH.nil
            go_simp
            go_wp2_with fail
            refine (KL _ OK5.out.duo.pe).mono ?_
            rintro r x6 ⟨rfl, k6, p6⟩
            have R6 := hide (OK5.out.mid k6)
            have X6 := hide (X5.out.keep k6 (fun q9 => by have := HLT.out; rcases q9 with q9 | q9 <;> omega))
            have P6 := hide (P5.out.keep k6 (fun q9 => by have := HLT.out; rcases q9 with q9 | q9 <;> omega))
            have K6 := hide k6
            have PE6 := hide p6
            clear k6 p6
            go_wp2_with fail
            refine hK.out _ _ ⟨(X6.out.get 2 _ rfl).1, (X6.out.get 3 _ rfl).1, P6.out.2.1, P6.out.2.2.1⟩ (fun hS => ?_)
            clear hK K
            (try simp only [Act.put, List.setIfInBounds_toArray, List.set_cons_zero, List.set_cons_succ])
            refine wpAnyH_ready (rs := [10]) (by kernel_rfl) (by simp) ?_
            refine AllReadyH.cons rfl (fun K hK => ?_) AllReadyH.nil
            go_simp
            go_wp2_with fail
            refine (KRL _ R6.out).mono ?_
            rintro r x7 ⟨a', c', rfl, r7, ha, k7⟩
            have TU := OK5.out.turn K6.out PE6.out k7 r7 (fun hn ad hd => (ha ad hd).elim (fun q => .inl ⟨q, relN_nil hn⟩) .inr)
            have X7 := hide (X6.out.keep k7 (fun q9 => by have := HLT.out; omega))
            have P7 := hide (P6.out.keep k7 (fun q9 => by have := HLT.out; omega))
            have HT7 := hide (HT5.out.turn hk (by rw [← HTE.out]) (by rw [← HTE.out]) TU.1 (by rw [← HTE.out]; exact TU.2.1) (by rw [← HTE.out]; exact TU.2.2) (by omega))
            have TK := hide TU.2.1
            clear TU r7 ha k7 R6 K6 PE6 OK5 HT5
            go_wp2_with fail
            refine hK.out _ _ ⟨(X7.out.get 2 _ rfl).1, (X7.out.get 3 _ rfl).1, P7.out.2.1, P7.out.2.2.1⟩ (fun hS => ?_)
            clear hK K
            (try simp only [Act.put, List.setIfInBounds_toArray, List.set_cons_zero, List.set_cons_succ])
            refine take_at 11 (some 87) (v := ?_) rfl rfl (by kernel_rfl) (by kernel_rfl) (by kernel_rfl) (fun _ _ _ h => h) ⟨by rfl, ?_⟩ hS ?_
            rotate_left
            · intro wq hSw; go_simp; try rfl
            simp only [Act.put, List.setIfInBounds_toArray, List.set_cons_zero, List.set_cons_succ]
            refine take_at 12 (some 4) (v := ?_) rfl rfl (by kernel_rfl) (by kernel_rfl) (by kernel_rfl) (fun _ _ _ h => h) ⟨by rfl, ?_⟩ hS ?_
            rotate_left
            · intro wq hSw; go_simp; try rfl
            simp only [Act.put, List.setIfInBounds_toArray, List.set_cons_zero, List.set_cons_succ]
            refine take_at 13 (some 5) (v := ?_) rfl rfl (by kernel_rfl) (by kernel_rfl) (by kernel_rfl) (fun _ _ _ h => h) ⟨by rfl, ?_⟩ hS ?_
            rotate_left
            · intro wq hSw; go_simp; try rfl
            simp only [Act.put, List.setIfInBounds_toArray, List.set_cons_zero, List.set_cons_succ]
            refine wpAnyH_done (by kernel_rfl) ?_ _
            go_wp2_with fail
            go_ret2
            refine ⟨_, l.set k ⟨t.b, t.m, t.r, relN t.e tx, a', c'⟩, rfl, HT7.out, by rw [List.length_set]; exact hl, by rw [List.length_set]; exact hl6, ?_, ?_⟩
            · intro i hi
              rw [List.length_set] at hi
              rw [List.getElem_set]
              split
              · exact Nat.le_succ_of_le (Nat.le_trans (relN_len t.e tx) HNT.out)
              · exact Nat.le_succ_of_le (HNN.out i hi)
            · have K9 := (Keep.of_below (S := tabS (.slice a l.length c) l) BL5.out).trans TK.out (fun x _ q9 => .inr ⟨k, hk, by rw [← HTE.out]; exact It.trio_own q9⟩)
              rw [HA.out] at K9
              exact K9
          · have z4' : (kd == 4) = false := by simpa using z4
            by_cases z5 : kd = 5
            · have hl5 := HCC.out z5
              subst z5
              clear HCC KA KRA KS KRS KM KRM KL KRL z1 z1' z2 z2' z3 z3' z4 z4'
              go_upto_region 15 with fail
              have pc0 := P2.out.2.1
              have pc1 := P2.out.2.2.1
              go_wp2_with fail
              refine (KC _ OK2.out.duo.pe).mono ?_
              rintro r x6 ⟨b', m', rfl, PE6, g1, g2, hh⟩
              have OK6 := hide (OK2.out.below hh)
              have P6 := hide (P2.out.below hh)
              have HT6 := hide (HT2.out.below hh)
              have BL6 := hide (BL2.out.trans (hh.mono BL2.out.size))
              have PE6 := hide PE6
              have lt6 := PE6.out.lt
              have sz6 := hh.size
              have sz2 := SZ2.out
              clear hh OK2 X2 P2 HT2 BL2 pc0 pc1
              have pc1 := P6.out.2.2.1
              go_wp2_with fail
              refine (KRC _ OK6.out.duo.re).mono ?_
              rintro r x7 ⟨r', a', c', rfl, RE7, g3, g4, hh⟩
              have HT7 := hide (HT6.out.below hh)
              have BL7 := hide (BL6.out.trans (hh.mono BL6.out.size))
              have PE7 := hide (PE6.out.below hh)
              have sz7 := hh.size
              have T7 := hide (show It.Ok ⟨b', m', r', t.e, a', c'⟩ x7 from ⟨⟨PE7.out, RE7⟩, by simp only; omega, by simp only; omega, fun _ ad hd => by have := g4 ad hd; exact ⟨by simp only; omega, by simp only; omega⟩⟩)
              have OW := hide (show ∀ x, It.own ⟨b', m', r', t.e, a', c'⟩ x → w.heap.size + 2 ≤ x from by
                intro x hx
                rcases hx with q9 | q9 | q9 | ⟨_, ad, hd, q9⟩
                · simp only at q9; omega
                · simp only at q9; omega
                · simp only at q9; omega
                · have := g4 ad hd; omega)
              clear hh HT6 BL6 PE6 PE7 OK6 P6 pc1 RE7 g4
              have HT8 := hide (HT7.out.below (alloc_below x7 (.cells #[ptr b', ptr r'] 66)))
              have T8 := hide (T7.out.below (alloc_below x7 (.cells #[ptr b', ptr r'] 66)))
              have BL8 := hide (BL7.out.alloc BL7.out.size (.cells #[ptr b', ptr r'] 66))
              have LI := hide (lit_lies x7 #[ptr b', ptr r'] 66)
              have HB8 : B ≤ x7.heap.size := by have := BL7.out.size; omega
              clear HT7 T7 BL7
              go_wp2_with (at_builtin; refine wpList_appR Try.underlying67 info66 rfl (by decide) (by decide) rfl (.tmp _) (.tmp _) rfl B _ l.length (rowsC pairC l) rfl HT8.out.row (some ⟨x7.heap.size, 0, none⟩) 1 1 (pairC ⟨b', m', r', t.e, a', c'⟩) rfl rfl LI.out (pairC_one _) (by nofun) (by omega) (by simp; omega) ?_; intro v' w9 q1 q2 q3; obtain ⟨av, cv, rfl, -, -, -, -, -⟩ := GRow.lies q1; have HT9 := hide (HT8.out.more T8.out (w.heap.size + 2) (fun i hi x hx => HOL.out i hi x hx) OW.out (by omega) q1 ((Keep.refl _ _).grown q2 (fun g hg _ => hg)) (fun g hg => by have := HRL.out g hg; omega) (q3.elim .inl (fun q => .inr ⟨_, q, Nat.le_refl _⟩))); have K9 := hide ((Keep.of_below (S := tabS (.slice a l.length c) l) BL8.out).grown q2 (fun g hg _ => .inl hg)); clear q1 q2 q3)
              go_ret2
              refine ⟨_, l ++ [⟨b', m', r', t.e, a', c'⟩], by simp, HT9.out, by simp, by simp; omega, ?_, by have K9 := K9.out; rw [HA.out] at K9; exact K9⟩
              intro i hi
              rw [List.getElem_append]
              split
              · exact Nat.le_succ_of_le (HNN.out i _)
              · simpa using Nat.le_succ_of_le HNT.out
            · have z5' : (kd == 5) = false := by simpa using z5
              clear KA KRA KS KRS KM KRM KL KRL KC KRC HCC z1 z2 z3 z4 z5
              go_wp2_with fail
              go_ret2
              exact ⟨.slice a l.length c, rfl, l, HT2.out, hl, hl6, fun i hi => Nat.le_succ_of_le (HNN.out i hi), Keep.of_below BL2.out⟩
end Go.Proofs.Ytcnlcmdppkdmmaa
