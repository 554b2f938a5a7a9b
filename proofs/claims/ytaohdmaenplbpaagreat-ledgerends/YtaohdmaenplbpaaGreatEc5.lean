import Derived.Test.YtaohdmaenplbpaaGreatBB
import Derived.Test.YtaohdmaenplbpaaGreatTake
import Derived.Deep.RegionHeld
import Derived.Deep.DeepCutAuto
import Derived.Deep.QuietTactic
import Derived.BigQuiet
import Derived.WalkMore
namespace Go.Proofs.YtaohdmaenplbpaaGreat
open Go.RowKit Go.QK Quota Go.Maps

theorem seen1 (w : World) (x : Int) (t : TypeId) : Seen (w.alloc (.cells #[.int .i64 x] t)) (some ⟨w.heap.size, 0, none⟩) [x] := by
  refine .inr ⟨w.heap.size, 0, rfl, by simp, ?_⟩
  intro i hi
  obtain rfl : i = 0 := by simp at hi; omega
  simp [go_sem]
theorem seen2 (w : World) (x y : Int) (t : TypeId) : Seen (w.alloc (.cells #[.int .i64 x, .int .i64 y] t)) (some ⟨w.heap.size, 0, none⟩) [x, y] := by
  refine .inr ⟨w.heap.size, 0, rfl, by simp, ?_⟩
  intro i hi
  have : i = 0 ∨ i = 1 := by simp at hi; omega
  rcases this with rfl | rfl <;> simp [go_sem]

set_option maxHeartbeats 1000000 in
theorem weigh_tx (b : Nat) (e : Esc) (tx d : Int) (w : World) (ht : tx < 1 ∨ 2147483647 < tx) :
    Calls Tryz.prog 61 #[ptr b, .int .i64 tx, .int .i64 d] w fun r w' => r = .returned (.tuple #[.int .i64 (wN e tx d), rng (wL e tx d) (wH e tx d), .int .i64 (mayE e tx d)]) ∧ Below w.heap.size w w' := by
  have hm : mayE e tx d = 130 := by unfold mayE; rw [if_pos ht]
  have h1 : wN e tx d = 0 ∧ wL e tx d = 0 ∧ wH e tx d = 0 := by unfold wN wL wH; rw [hm]; exact ⟨rfl, rfl, rfl⟩
  rw [hm, h1.1, h1.2.1, h1.2.2]
  clear h1 hm
  by_cases hx : tx < 1
  · clear ht
    go_enter Tryz.func61, Tryz.ntmps61
    go_wp2_with fail
    refine bodyPost_ret (v := .tuple #[.int .i64 0, rng 0 0, .int .i64 130]) (by simp [results, Tryz.results61, go_sem]) rfl ⟨rfl, ?_⟩
    exact (Below.refl _ _).alloc (Nat.le_refl _) _
  · have hy : 2147483647 < tx := by omega
    clear ht
    go_enter Tryz.func61, Tryz.ntmps61
    go_wp2_with fail
    refine bodyPost_ret (v := .tuple #[.int .i64 0, rng 0 0, .int .i64 130]) (by simp [results, Tryz.results61, go_sem]) rfl ⟨rfl, ?_⟩
    exact (Below.refl _ _).alloc (Nat.le_refl _) _

set_option maxHeartbeats 4000000 in
theorem weigh_fit (b m : Nat) (e : Esc) (tx d : Int) (w : World) (h : PE w b m e) (hx : I64 tx) (hd : I64 d) (ht : ¬ (tx < 1 ∨ 2147483647 < tx)) (hf : fitB (netV e.nets tx + d) = true) :
    Calls Tryz.prog 61 #[ptr b, .int .i64 tx, .int .i64 d] w fun r w' => r = .returned (.tuple #[.int .i64 (wN e tx d), rng (wL e tx d) (wH e tx d), .int .i64 (mayE e tx d)]) ∧ Below w.heap.size w w' := by
  have hin := mayE_bounds h.ok (tx := tx) hd rfl
  obtain ⟨i1, i2, i3⟩ := h.ok.others tx
  have hn := h.ok.net tx
  obtain ⟨pa, pl⟩ := prt_all hn hd
  have hme : mayE e tx d = if decide (mLow e tx d < e.lo ∨ e.hi < mHigh e tx d) = true then 110 else 0 := by
    unfold mayE; rw [if_neg ht, hf]; simp
  have hps : prt (netV e.nets tx) d = [netV e.nets tx + d] := by unfold prt; rw [hf]; rfl
  have hwl : mLow e tx d = e.low - neg0 (netV e.nets tx) + lows (prt (netV e.nets tx) d) := by rw [(prt_sum hn hd).1]; rfl
  have hwh : mHigh e tx d = e.high - pos0 (netV e.nets tx) + highs (prt (netV e.nets tx) d) := by rw [(prt_sum hn hd).2]; rfl
  obtain ⟨N0, hN0⟩ : ∃ z, z = wN e tx d := ⟨_, rfl⟩
  obtain ⟨L0, hL0⟩ : ∃ z, z = wL e tx d := ⟨_, rfl⟩
  obtain ⟨H0, hH0⟩ : ∃ z, z = wH e tx d := ⟨_, rfl⟩
  obtain ⟨M0, hM0⟩ : ∃ z, z = mayE e tx d := ⟨_, rfl⟩
  have HA := hide (And.intro hN0 (And.intro hL0 (And.intro hH0 (And.intro hM0 (And.intro hme (And.intro hwl hwh))))))
  rw [← hN0, ← hL0, ← hH0, ← hM0]
  clear hN0 hL0 hH0 hM0 hme hwl hwh
  rw [hps] at hin pa pl
  have HPS := hide hps
  clear hps
  obtain ⟨hv, hhv⟩ : ∃ z, z = netV e.nets tx := ⟨_, rfl⟩
  have HHV := hide hhv.symm
  rw [← hhv] at hin i1 i2 i3 hn pa pl hf HA HPS
  have WO := fun w' => without_any e.low e.high hv w' i1 i2
  have AD := fun w' => add_any hv d w' hn hd
  have RC := fun (ad : Option Addr) (cp : Nat) (w' : World) (hs : Seen w' ad [hv + d]) => reach_any (e.low - neg0 hv) (e.high - pos0 hv) [hv + d] ad cp w' i1 i2 hs pa (by simp)
  rw [show fitV (hv + d) = hv + d from by simp [fitV, hf], show fitE (hv + d) = 0 from by simp [fitE, hf]] at AD
  generalize e.low - neg0 hv = A at *
  generalize e.high - pos0 hv = B at *
  obtain ⟨RL, hRL⟩ : ∃ z, z = rchL A B [hv + d] := ⟨_, rfl⟩
  obtain ⟨RH, hRH⟩ : ∃ z, z = rchH A B [hv + d] := ⟨_, rfl⟩
  obtain ⟨RE, hRE⟩ : ∃ z, z = rchE A B [hv + d] := ⟨_, rfl⟩
  rw [← hRL, ← hRH, ← hRE] at RC
  rw [← hRL, ← hRH] at hin
  have IN := fun w' => within_any RL RH e.lo e.hi w'
  simp only [List.length_cons, List.length_nil] at RC
  have HRE := hide (show RE = 0 ∨ RE = 10 from by rw [hRE]; unfold rchE; split <;> simp)
  have HNO := hide (show RE ≠ 0 ∨ inB RL RH e.lo e.hi = false → N0 = 0 ∧ L0 = 0 ∧ H0 = 0 ∧ M0 = 110 from by
    intro q
    have q1 : decide (mLow e tx d < e.lo ∨ e.hi < mHigh e tx d) = true := by
      rw [← hin]
      rcases q with q | q
      · rw [hRE] at q
        unfold rchE at q
        split at q
        · exact absurd rfl q
        · rename_i q2
          simp [q2]
      · simp [q]
    have q2 : M0 = 110 := by rw [HA.out.2.2.2.1, HA.out.2.2.2.2.1, if_pos q1]
    have q3 : ¬ mayE e tx d = 0 := by rw [← HA.out.2.2.2.1, q2]; omega
    refine ⟨?_, ?_, ?_, q2⟩
    · rw [HA.out.1]; unfold wN; rw [if_neg q3]
    · rw [HA.out.2.1]; unfold wL; rw [if_neg q3]
    · rw [HA.out.2.2.1]; unfold wH; rw [if_neg q3])
  have HYES := hide (show RE = 0 → inB RL RH e.lo e.hi = true → N0 = hv + d ∧ L0 = RL ∧ H0 = RH ∧ M0 = 0 from by
    intro q p
    have q0 : rchB A B [hv + d] = true := by
      rw [hRE] at q
      unfold rchE at q
      split at q
      · assumption
      · cases q
    have q1 : ¬ decide (mLow e tx d < e.lo ∨ e.hi < mHigh e tx d) = true := by
      rw [← hin, p, q0]
      simp
    have q2 : M0 = 0 := by rw [HA.out.2.2.2.1, HA.out.2.2.2.2.1, if_neg q1]
    have q3 : mayE e tx d = 0 := by rw [← HA.out.2.2.2.1, q2]
    refine ⟨?_, ?_, ?_, q2⟩
    · rw [HA.out.1]; unfold wN; rw [if_pos q3, HHV.out]
    · rw [HA.out.2.1]; unfold wL; rw [if_pos q3, HA.out.2.2.2.2.2.1, HPS.out, hRL, rchL, if_pos q0]
    · rw [HA.out.2.2.1]; unfold wH; rw [if_pos q3, HA.out.2.2.2.2.2.2, HPS.out, hRH, rchH, if_pos q0])
  have HX := hide hx
  have HP := hide h
  have MW := hide (show (w.alloc (.cells #[.int .i64 0, .int .i64 0] 38)).ownsMap Tryz.prog 3 (plainElem (H := Unit) Tryz.prog 2) m _ (mapD e.nets) from World.ownsMap.alloc h.map _)
  have k5 := h.c5
  have hbl := h.lt.1
  have hbn : b ≠ w.heap.size := by omega
  have t1 : ¬ tx < 1 := fun q => ht (.inl q)
  have t2 : ¬ 2147483647 < tx := fun q => ht (.inr q)
  clear hin hRL hRH hRE hf hx hd ht i1 i2 i3 hn pa pl hhv HA HPS
  generalize hv + d = nn at *
  go_enter Tryz.func61, Tryz.ntmps61
  go_wp2_with (at_lookup; refine wpList_lookup_own_int _ rfl _ _ 114 rfl 3 2 .i64 lawK Tryz.underlying114 Tryz.underlying2 (zero2 _) m _ _ rfl MW.out _ _ rfl (keyI HX.out) ?_; intro c hat hwc; rw [mapD_at] at hat; obtain rfl : hv = c := by rw [← HHV.out]; simpa using hat)
  refine (AD _).mono ?_
  rintro r w1 ⟨rfl, hb1⟩
  have BX := hide (Box.below (Box.new w (.int .i64 0) (.int .i64 0) 38) hb1)
  have b1 := hide (below1 hb1)
  have s1 := b1.out.size
  have P1 := hide (HP.out.below b1.out)
  clear AD k5 t1 t2 hb1 hwc
  have o1 := hide ((Below.refl w1.heap.size w1).alloc (Nat.le_refl _) (.cells #[.int .i64 nn] 2))
  have SN := hide (seen1 w1 nn 2)
  have P2 := hide (P1.out.below o1.out)
  have BX := hide (BX.out.below o1.out)
  have b2 := hide (b1.out.trans (o1.out.mono s1))
  obtain ⟨w2, hw2⟩ : ∃ w2, w2 = (w1.alloc (.cells #[.int .i64 nn] 2)) := ⟨_, rfl⟩
  have k3 := P2.out.c3
  have k4 := P2.out.c4
  rw [← hw2] at SN P2 BX b2 k3 k4
  have HW2 := hide hw2
  have hz2 := b2.out.size
  go_upto_region 8 with fail
  rw [← HW2.out]
  clear o1 P1 hw2 HW2
  go_wp2_with fail
  refine (WO _).mono ?_
  rintro r w3 ⟨rfl, hb3⟩
  have SN := hide (SN.out.below hb3)
  have P3 := hide (P2.out.below hb3)
  have BX := hide (BX.out.below hb3)
  have b3 := hide (b2.out.trans (hb3.mono hz2))
  clear WO k3 k4 P2 b2 hb3
  go_wp2_with fail
  refine (RC (some ⟨w1.heap.size, 0, none⟩) 1 w3 SN.out).mono ?_
  rintro r w4 ⟨rfl, hb4⟩
  have P4 := hide (P3.out.below hb4)
  have BX4 := hide (BX.out.below hb4)
  have b4 := hide (b3.out.trans (hb4.mono b3.out.size))
  clear RC P3 SN b3 hb4
  have o5 := (Below.refl w4.heap.size w4).alloc (Nat.le_refl _) (.cells #[.int .i64 RL, .int .i64 RH] 38)
  have P5 := hide (P4.out.below o5)
  have BX := hide (BX4.out.below o5)
  have B5 := hide (Box.new w4 (.int .i64 RL) (.int .i64 RH) 38)
  have b5 := hide (b4.out.trans (o5.mono b4.out.size))
  have r4 := BX4.out.1
  go_upto_region 9 with fail
  obtain ⟨w5, hw5⟩ : ∃ w5, w5 = w4.alloc (.cells #[.int .i64 RL, .int .i64 RH] 38) := ⟨_, rfl⟩
  rw [← hw5] at P5 BX B5 b5 ⊢
  clear o5 P4 hw5
  obtain ⟨y0, y1, y2, y3, y4⟩ := B5.out
  have k0 := P5.out.c0
  have k1 := P5.out.c1
  have hg : w4.heap.size ≠ w.heap.size := by omega
  rcases HRE.out with rfl | rfl
  · by_cases hi : inB RL RH e.lo e.hi = true
    · have Y := hide (HYES.out rfl hi)
      rw [hi] at IN
      clear HYES HNO HRE
      refine wp_region_held_drew (S := fun wq => wq.cell? ⟨w4.heap.size, 0, none⟩ = some (.int .i64 RL) ∧ wq.cell? ⟨w4.heap.size, 1, none⟩ = some (.int .i64 RH) ∧ wq.cell? ⟨b, 0, none⟩ = some (.int .i64 e.lo) ∧ wq.cell? ⟨b, 1, none⟩ = some (.int .i64 e.hi)) (by kernel_rfl) ⟨y1, y2, k0, k1⟩ (fun hS => ?_)
      have P6 := hide (P5.out.below (Below.refl _ _).drew)
      have B6 := hide (B5.out.below (Below.refl _ _).drew)
      have BX6 := hide (BX.out.below (Below.refl _ _).drew)
      have b6 := hide b5.out.drew
      clear y1 y2 y3 y4 k0 k1 P5 B5 BX b5
      generalize w5.drew = w6 at *
      refine take_at 0 (some 52) (v := ?_) rfl rfl (by kernel_rfl) (by kernel_rfl) (by kernel_rfl) (fun _ _ _ h => h) ⟨by rfl, ?_⟩ hS ?_
      rotate_left
      · intro wq hSw; go_simp; try rfl
      simp only [Act.put, List.setIfInBounds_toArray, List.set_cons_zero, List.set_cons_succ]
      refine take_at 1 (some 53) (v := ?_) rfl rfl (by kernel_rfl) (by kernel_rfl) (by kernel_rfl) (fun _ _ _ h => h) ⟨by rfl, ?_⟩ hS ?_
      rotate_left
      · intro wq hSw; go_simp; try rfl
      simp only [Act.put, List.setIfInBounds_toArray, List.set_cons_zero, List.set_cons_succ]
      refine take_at 2 (some 54) (v := ?_) rfl rfl (by kernel_rfl) (by kernel_rfl) (by kernel_rfl) (fun _ _ _ h => h) ⟨by rfl, ?_⟩ hS ?_
      rotate_left
      · intro wq hSw; go_simp; try rfl
      simp only [Act.put, List.setIfInBounds_toArray, List.set_cons_zero, List.set_cons_succ]
      refine take_at 3 (some 55) (v := ?_) rfl rfl (by kernel_rfl) (by kernel_rfl) (by kernel_rfl) (fun _ _ _ h => h) ⟨by rfl, ?_⟩ hS ?_
      rotate_left
      · intro wq hSw; obtain ⟨r0, r1, r2, r3⟩ := hSw; go_simp; try rfl
      simp only [Act.put, List.setIfInBounds_toArray, List.set_cons_zero, List.set_cons_succ]
      refine take_at 4 (some 56) (v := ?_) rfl rfl (by kernel_rfl) (by kernel_rfl) (by kernel_rfl) (fun _ _ _ h => h) ⟨by rfl, ?_⟩ hS ?_
      rotate_left
      · intro wq hSw; go_simp; try rfl
      simp only [Act.put, List.setIfInBounds_toArray, List.set_cons_zero, List.set_cons_succ]
      refine take_at 5 (some 57) (v := ?_) rfl rfl (by kernel_rfl) (by kernel_rfl) (by kernel_rfl) (fun _ _ _ h => h) ⟨by rfl, ?_⟩ hS ?_
      rotate_left
      · intro wq hSw; go_simp; try rfl
      simp only [Act.put, List.setIfInBounds_toArray, List.set_cons_zero, List.set_cons_succ]
      refine take_at 6 (some 58) (v := ?_) rfl rfl (by kernel_rfl) (by kernel_rfl) (by kernel_rfl) (fun _ _ _ h => h) ⟨by rfl, ?_⟩ hS ?_
      rotate_left
      · intro wq hSw; go_simp; try rfl
      simp only [Act.put, List.setIfInBounds_toArray, List.set_cons_zero, List.set_cons_succ]
      refine take_at 7 (some 59) (v := ?_) rfl rfl (by kernel_rfl) (by kernel_rfl) (by kernel_rfl) (fun _ _ _ h => h) ⟨by rfl, ?_⟩ hS ?_
      rotate_left
      · intro wq hSw; obtain ⟨r0, r1, r2, r3⟩ := hSw; go_simp; try rfl
      simp only [Act.put, List.setIfInBounds_toArray, List.set_cons_zero, List.set_cons_succ]
      refine wpAnyH_ready (rs := [8]) (by kernel_rfl) (by simp) ?_
      refine AllReadyH.cons rfl (fun K hK => ?_) AllReadyH.nil
      go_simp
      go_wp2_with fail
      refine (IN _).mono ?_
      rintro r w7 ⟨rfl, hb7⟩
      have P7 := hide (P6.out.below hb7)
      have B7 := hide (B6.out.below hb7)
      have BX7 := hide (BX6.out.below hb7)
      have b7 := hide (b6.out.trans (hb7.mono b6.out.size))
      clear hb7 P6 B6 BX6 b6
      go_wp2_with fail
      refine hK.out _ _ ⟨B7.out.2.1, B7.out.2.2.1, P7.out.c0, P7.out.c1⟩ (fun hS => ?_)
      clear hK K
      clear IN
      (try simp only [Act.put, List.setIfInBounds_toArray, List.set_cons_zero, List.set_cons_succ])
      refine take_at 9 (some 61) (v := ?_) rfl rfl (by kernel_rfl) (by kernel_rfl) (by kernel_rfl) (fun _ _ _ h => h) ⟨by rfl, ?_⟩ hS ?_
      rotate_left
      · intro wq hSw; go_simp; try rfl
      simp only [Act.put, List.setIfInBounds_toArray, List.set_cons_zero, List.set_cons_succ]
      refine take_at 10 (some 62) (v := ?_) rfl rfl (by kernel_rfl) (by kernel_rfl) (by kernel_rfl) (fun _ _ _ h => h) ⟨by rfl, ?_⟩ hS ?_
      rotate_left
      · intro wq hSw; go_simp; try rfl
      simp only [Act.put, List.setIfInBounds_toArray, List.set_cons_zero, List.set_cons_succ]
      refine wpAnyH_done (by kernel_rfl) ?_ _
      clear hS
      obtain ⟨u0, u1, u2, u3, u4⟩ := BX7.out
      obtain ⟨v0, v1, v2, v3, v4⟩ := B7.out
      go_wp2_with fail
      go_region
      all_goals
        go_wp2_with fail
        have BF := Box.set BX7.out (.int .i64 RL) (.int .i64 RH)
        obtain ⟨z0, z1, z2, z3, z4⟩ := BF
        refine bodyPost_ret (v := .tuple #[.int .i64 N0, rng L0 H0, .int .i64 M0]) (by rw [Y.out.1, Y.out.2.1, Y.out.2.2.1, Y.out.2.2.2]; simp [results, Tryz.results61, go_sem, z1, z2]) rfl ⟨rfl, ?_⟩
        exact ((b7.out.drew.setCell (Nat.le_refl _) _).setCell (Nat.le_refl _) _)
    · have hi : inB RL RH e.lo e.hi = false := by simpa using hi
      have Y := hide (HNO.out (.inr hi))
      rw [hi] at IN
      clear HYES HNO HRE
      refine wp_region_held_drew (S := fun wq => wq.cell? ⟨w4.heap.size, 0, none⟩ = some (.int .i64 RL) ∧ wq.cell? ⟨w4.heap.size, 1, none⟩ = some (.int .i64 RH) ∧ wq.cell? ⟨b, 0, none⟩ = some (.int .i64 e.lo) ∧ wq.cell? ⟨b, 1, none⟩ = some (.int .i64 e.hi)) (by kernel_rfl) ⟨y1, y2, k0, k1⟩ (fun hS => ?_)
      have P6 := hide (P5.out.below (Below.refl _ _).drew)
      have B6 := hide (B5.out.below (Below.refl _ _).drew)
      have BX6 := hide (BX.out.below (Below.refl _ _).drew)
      have b6 := hide b5.out.drew
      clear y1 y2 y3 y4 k0 k1 P5 B5 BX b5
      generalize w5.drew = w6 at *
      refine take_at 0 (some 52) (v := ?_) rfl rfl (by kernel_rfl) (by kernel_rfl) (by kernel_rfl) (fun _ _ _ h => h) ⟨by rfl, ?_⟩ hS ?_
      rotate_left
      · intro wq hSw; go_simp; try rfl
      simp only [Act.put, List.setIfInBounds_toArray, List.set_cons_zero, List.set_cons_succ]
      refine take_at 1 (some 53) (v := ?_) rfl rfl (by kernel_rfl) (by kernel_rfl) (by kernel_rfl) (fun _ _ _ h => h) ⟨by rfl, ?_⟩ hS ?_
      rotate_left
      · intro wq hSw; go_simp; try rfl
      simp only [Act.put, List.setIfInBounds_toArray, List.set_cons_zero, List.set_cons_succ]
      refine take_at 2 (some 54) (v := ?_) rfl rfl (by kernel_rfl) (by kernel_rfl) (by kernel_rfl) (fun _ _ _ h => h) ⟨by rfl, ?_⟩ hS ?_
      rotate_left
      · intro wq hSw; go_simp; try rfl
      simp only [Act.put, List.setIfInBounds_toArray, List.set_cons_zero, List.set_cons_succ]
      refine take_at 3 (some 55) (v := ?_) rfl rfl (by kernel_rfl) (by kernel_rfl) (by kernel_rfl) (fun _ _ _ h => h) ⟨by rfl, ?_⟩ hS ?_
      rotate_left
      · intro wq hSw; obtain ⟨r0, r1, r2, r3⟩ := hSw; go_simp; try rfl
      simp only [Act.put, List.setIfInBounds_toArray, List.set_cons_zero, List.set_cons_succ]
      refine take_at 4 (some 56) (v := ?_) rfl rfl (by kernel_rfl) (by kernel_rfl) (by kernel_rfl) (fun _ _ _ h => h) ⟨by rfl, ?_⟩ hS ?_
      rotate_left
      · intro wq hSw; go_simp; try rfl
      simp only [Act.put, List.setIfInBounds_toArray, List.set_cons_zero, List.set_cons_succ]
      refine take_at 5 (some 57) (v := ?_) rfl rfl (by kernel_rfl) (by kernel_rfl) (by kernel_rfl) (fun _ _ _ h => h) ⟨by rfl, ?_⟩ hS ?_
      rotate_left
      · intro wq hSw; go_simp; try rfl
      simp only [Act.put, List.setIfInBounds_toArray, List.set_cons_zero, List.set_cons_succ]
      refine take_at 6 (some 58) (v := ?_) rfl rfl (by kernel_rfl) (by kernel_rfl) (by kernel_rfl) (fun _ _ _ h => h) ⟨by rfl, ?_⟩ hS ?_
      rotate_left
      · intro wq hSw; go_simp; try rfl
      simp only [Act.put, List.setIfInBounds_toArray, List.set_cons_zero, List.set_cons_succ]
      refine take_at 7 (some 59) (v := ?_) rfl rfl (by kernel_rfl) (by kernel_rfl) (by kernel_rfl) (fun _ _ _ h => h) ⟨by rfl, ?_⟩ hS ?_
      rotate_left
      · intro wq hSw; obtain ⟨r0, r1, r2, r3⟩ := hSw; go_simp; try rfl
      simp only [Act.put, List.setIfInBounds_toArray, List.set_cons_zero, List.set_cons_succ]
      refine wpAnyH_ready (rs := [8]) (by kernel_rfl) (by simp) ?_
      refine AllReadyH.cons rfl (fun K hK => ?_) AllReadyH.nil
      go_simp
      go_wp2_with fail
      refine (IN _).mono ?_
      rintro r w7 ⟨rfl, hb7⟩
      have P7 := hide (P6.out.below hb7)
      have B7 := hide (B6.out.below hb7)
      have BX7 := hide (BX6.out.below hb7)
      have b7 := hide (b6.out.trans (hb7.mono b6.out.size))
      clear hb7 P6 B6 BX6 b6
      go_wp2_with fail
      refine hK.out _ _ ⟨B7.out.2.1, B7.out.2.2.1, P7.out.c0, P7.out.c1⟩ (fun hS => ?_)
      clear hK K
      clear IN
      (try simp only [Act.put, List.setIfInBounds_toArray, List.set_cons_zero, List.set_cons_succ])
      refine take_at 9 (some 61) (v := ?_) rfl rfl (by kernel_rfl) (by kernel_rfl) (by kernel_rfl) (fun _ _ _ h => h) ⟨by rfl, ?_⟩ hS ?_
      rotate_left
      · intro wq hSw; go_simp; try rfl
      simp only [Act.put, List.setIfInBounds_toArray, List.set_cons_zero, List.set_cons_succ]
      refine take_at 10 (some 62) (v := ?_) rfl rfl (by kernel_rfl) (by kernel_rfl) (by kernel_rfl) (fun _ _ _ h => h) ⟨by rfl, ?_⟩ hS ?_
      rotate_left
      · intro wq hSw; go_simp; try rfl
      simp only [Act.put, List.setIfInBounds_toArray, List.set_cons_zero, List.set_cons_succ]
      refine wpAnyH_done (by kernel_rfl) ?_ _
      clear hS
      obtain ⟨u0, u1, u2, u3, u4⟩ := BX7.out
      go_wp2_with fail
      have BF := Box.set BX7.out (.int .i64 0) (.int .i64 0)
      obtain ⟨z0, z1, z2, z3, z4⟩ := BF
      refine bodyPost_ret (v := .tuple #[.int .i64 N0, rng L0 H0, .int .i64 M0]) (by rw [Y.out.1, Y.out.2.1, Y.out.2.2.1, Y.out.2.2.2]; simp [results, Tryz.results61, go_sem, z1, z2]) rfl ⟨rfl, ?_⟩
      exact ((b7.out.setCell (Nat.le_refl _) _).setCell (Nat.le_refl _) _)
  · have Y := hide (HNO.out (.inl (by omega)))
    clear HYES HNO HRE IN
    refine wp_region_held_drew (S := fun _ => True) (by kernel_rfl) trivial (fun hS => ?_)
    have BX7 := hide (BX.out.below (Below.refl _ _).drew)
    have b7 := hide b5.out.drew
    clear y1 y2 y3 y4 k0 k1 P5 B5 BX b5
    generalize w5.drew = w7 at *
    refine take_at 0 (some 52) (v := ?_) rfl rfl (by kernel_rfl) (by kernel_rfl) (by kernel_rfl) (fun _ _ _ h => h) ⟨by rfl, ?_⟩ hS ?_
    rotate_left
    · intro wq hSw; go_simp; try rfl
    simp only [Act.put, List.setIfInBounds_toArray, List.set_cons_zero, List.set_cons_succ]
    refine take_at 1 (some 53) (v := ?_) rfl rfl (by kernel_rfl) (by kernel_rfl) (by kernel_rfl) (fun _ _ _ h => h) ⟨by rfl, ?_⟩ hS ?_
    rotate_left
    · intro wq hSw; go_simp; try rfl
    simp only [Act.put, List.setIfInBounds_toArray, List.set_cons_zero, List.set_cons_succ]
    refine take_at 2 (some 54) (v := ?_) rfl rfl (by kernel_rfl) (by kernel_rfl) (by kernel_rfl) (fun _ _ _ h => h) ⟨by rfl, ?_⟩ hS ?_
    rotate_left
    · intro wq hSw; go_simp; try rfl
    simp only [Act.put, List.setIfInBounds_toArray, List.set_cons_zero, List.set_cons_succ]
    refine pass_at 3 (some 55) rfl rfl (by kernel_rfl) (by kernel_rfl) (by kernel_rfl) (fun _ _ _ h => h) (by rfl) hS ?_
    simp only [Act.put, List.setIfInBounds_toArray, List.set_cons_zero, List.set_cons_succ]
    refine pass_at 4 (some 56) rfl rfl (by kernel_rfl) (by kernel_rfl) (by kernel_rfl) (fun _ _ _ h => h) (by rfl) hS ?_
    simp only [Act.put, List.setIfInBounds_toArray, List.set_cons_zero, List.set_cons_succ]
    refine pass_at 5 (some 57) rfl rfl (by kernel_rfl) (by kernel_rfl) (by kernel_rfl) (fun _ _ _ h => h) (by rfl) hS ?_
    simp only [Act.put, List.setIfInBounds_toArray, List.set_cons_zero, List.set_cons_succ]
    refine pass_at 6 (some 58) rfl rfl (by kernel_rfl) (by kernel_rfl) (by kernel_rfl) (fun _ _ _ h => h) (by rfl) hS ?_
    simp only [Act.put, List.setIfInBounds_toArray, List.set_cons_zero, List.set_cons_succ]
    refine pass_at 7 (some 59) rfl rfl (by kernel_rfl) (by kernel_rfl) (by kernel_rfl) (fun _ _ _ h => h) (by rfl) hS ?_
    simp only [Act.put, List.setIfInBounds_toArray, List.set_cons_zero, List.set_cons_succ]
    refine pass_at 8 (some 60) rfl rfl (by kernel_rfl) (by kernel_rfl) (by kernel_rfl) (fun _ _ _ h => h) (by rfl) hS ?_
    simp only [Act.put, List.setIfInBounds_toArray, List.set_cons_zero, List.set_cons_succ]
    refine pass_at 9 (some 61) rfl rfl (by kernel_rfl) (by kernel_rfl) (by kernel_rfl) (fun _ _ _ h => h) (by rfl) hS ?_
    simp only [Act.put, List.setIfInBounds_toArray, List.set_cons_zero, List.set_cons_succ]
    refine take_at 10 (some 62) (v := ?_) rfl rfl (by kernel_rfl) (by kernel_rfl) (by kernel_rfl) (fun _ _ _ h => h) ⟨by rfl, ?_⟩ hS ?_
    rotate_left
    · intro wq hSw; go_simp; try rfl
    simp only [Act.put, List.setIfInBounds_toArray, List.set_cons_zero, List.set_cons_succ]
    refine wpAnyH_done (by kernel_rfl) ?_ _
    clear hS
    obtain ⟨u0, u1, u2, u3, u4⟩ := BX7.out
    go_wp2_with fail
    have BF := Box.set BX7.out (.int .i64 0) (.int .i64 0)
    obtain ⟨z0, z1, z2, z3, z4⟩ := BF
    refine bodyPost_ret (v := .tuple #[.int .i64 N0, rng L0 H0, .int .i64 M0]) (by rw [Y.out.1, Y.out.2.1, Y.out.2.2.1, Y.out.2.2.2]; simp [results, Tryz.results61, go_sem, z1, z2]) rfl ⟨rfl, ?_⟩
    exact ((b7.out.setCell (Nat.le_refl _) _).setCell (Nat.le_refl _) _)

set_option maxHeartbeats 4000000 in
theorem weigh_not (b m : Nat) (e : Esc) (tx d : Int) (w : World) (h : PE w b m e) (hx : I64 tx) (hd : I64 d) (ht : ¬ (tx < 1 ∨ 2147483647 < tx)) (hf : fitB (netV e.nets tx + d) = false) :
    Calls Tryz.prog 61 #[ptr b, .int .i64 tx, .int .i64 d] w fun r w' => r = .returned (.tuple #[.int .i64 (wN e tx d), rng (wL e tx d) (wH e tx d), .int .i64 (mayE e tx d)]) ∧ Below w.heap.size w w' := by
  have hin := mayE_bounds h.ok (tx := tx) hd rfl
  obtain ⟨i1, i2, i3⟩ := h.ok.others tx
  have hn := h.ok.net tx
  obtain ⟨pa, pl⟩ := prt_all hn hd
  have hme : mayE e tx d = if decide (mLow e tx d < e.lo ∨ e.hi < mHigh e tx d) = true then 110 else 10 := by
    unfold mayE; rw [if_neg ht, hf]; simp
  have hps : prt (netV e.nets tx) d = [netV e.nets tx, d] := by unfold prt; rw [hf]; rfl
  have hwl : mLow e tx d = e.low - neg0 (netV e.nets tx) + lows (prt (netV e.nets tx) d) := by rw [(prt_sum hn hd).1]; rfl
  have hwh : mHigh e tx d = e.high - pos0 (netV e.nets tx) + highs (prt (netV e.nets tx) d) := by rw [(prt_sum hn hd).2]; rfl
  obtain ⟨N0, hN0⟩ : ∃ z, z = wN e tx d := ⟨_, rfl⟩
  obtain ⟨L0, hL0⟩ : ∃ z, z = wL e tx d := ⟨_, rfl⟩
  obtain ⟨H0, hH0⟩ : ∃ z, z = wH e tx d := ⟨_, rfl⟩
  obtain ⟨M0, hM0⟩ : ∃ z, z = mayE e tx d := ⟨_, rfl⟩
  have HA := hide (And.intro hN0 (And.intro hL0 (And.intro hH0 (And.intro hM0 (And.intro hme (And.intro hwl hwh))))))
  rw [← hN0, ← hL0, ← hH0, ← hM0]
  clear hN0 hL0 hH0 hM0 hme hwl hwh
  rw [hps] at hin pa pl
  have HPS := hide hps
  clear hps
  obtain ⟨hv, hhv⟩ : ∃ z, z = netV e.nets tx := ⟨_, rfl⟩
  have HHV := hide hhv.symm
  rw [← hhv] at hin i1 i2 i3 hn pa pl hf HA HPS
  have WO := fun w' => without_any e.low e.high hv w' i1 i2
  have AD := fun w' => add_any hv d w' hn hd
  have RC := fun (ad : Option Addr) (cp : Nat) (w' : World) (hs : Seen w' ad [hv, d]) => reach_any (e.low - neg0 hv) (e.high - pos0 hv) [hv, d] ad cp w' i1 i2 hs pa (by simp)
  rw [show fitV (hv + d) = 0 from by simp [fitV, hf], show fitE (hv + d) = 10 from by simp [fitE, hf]] at AD
  generalize e.low - neg0 hv = A at *
  generalize e.high - pos0 hv = B at *
  obtain ⟨RL, hRL⟩ : ∃ z, z = rchL A B [hv, d] := ⟨_, rfl⟩
  obtain ⟨RH, hRH⟩ : ∃ z, z = rchH A B [hv, d] := ⟨_, rfl⟩
  obtain ⟨RE, hRE⟩ : ∃ z, z = rchE A B [hv, d] := ⟨_, rfl⟩
  rw [← hRL, ← hRH, ← hRE] at RC
  rw [← hRL, ← hRH] at hin
  have IN := fun w' => within_any RL RH e.lo e.hi w'
  simp only [List.length_cons, List.length_nil] at RC
  have HRE := hide (show RE = 0 ∨ RE = 10 from by rw [hRE]; unfold rchE; split <;> simp)
  have HNO := hide (show RE ≠ 0 ∨ inB RL RH e.lo e.hi = false → N0 = 0 ∧ L0 = 0 ∧ H0 = 0 ∧ M0 = 110 from by
    intro q
    have q1 : decide (mLow e tx d < e.lo ∨ e.hi < mHigh e tx d) = true := by
      rw [← hin]
      rcases q with q | q
      · rw [hRE] at q
        unfold rchE at q
        split at q
        · exact absurd rfl q
        · rename_i q2
          simp [q2]
      · simp [q]
    have q2 : M0 = 110 := by rw [HA.out.2.2.2.1, HA.out.2.2.2.2.1, if_pos q1]
    have q3 : ¬ mayE e tx d = 0 := by rw [← HA.out.2.2.2.1, q2]; omega
    refine ⟨?_, ?_, ?_, q2⟩
    · rw [HA.out.1]; unfold wN; rw [if_neg q3]
    · rw [HA.out.2.1]; unfold wL; rw [if_neg q3]
    · rw [HA.out.2.2.1]; unfold wH; rw [if_neg q3])
  have HYES := hide (show RE = 0 → inB RL RH e.lo e.hi = true → N0 = 0 ∧ L0 = 0 ∧ H0 = 0 ∧ M0 = 10 from by
    intro q p
    have q0 : rchB A B [hv, d] = true := by
      rw [hRE] at q
      unfold rchE at q
      split at q
      · assumption
      · cases q
    have q1 : ¬ decide (mLow e tx d < e.lo ∨ e.hi < mHigh e tx d) = true := by
      rw [← hin, p, q0]
      simp
    have q2 : M0 = 10 := by rw [HA.out.2.2.2.1, HA.out.2.2.2.2.1, if_neg q1]
    have q3 : ¬ mayE e tx d = 0 := by rw [← HA.out.2.2.2.1, q2]; omega
    refine ⟨?_, ?_, ?_, q2⟩
    · rw [HA.out.1]; unfold wN; rw [if_neg q3]
    · rw [HA.out.2.1]; unfold wL; rw [if_neg q3]
    · rw [HA.out.2.2.1]; unfold wH; rw [if_neg q3])
  have HX := hide hx
  have HP := hide h
  have MW := hide (show (w.alloc (.cells #[.int .i64 0, .int .i64 0] 38)).ownsMap Tryz.prog 3 (plainElem (H := Unit) Tryz.prog 2) m _ (mapD e.nets) from World.ownsMap.alloc h.map _)
  have k5 := h.c5
  have hbl := h.lt.1
  have hbn : b ≠ w.heap.size := by omega
  have t1 : ¬ tx < 1 := fun q => ht (.inl q)
  have t2 : ¬ 2147483647 < tx := fun q => ht (.inr q)
  clear hin hRL hRH hRE hf hx hd ht i1 i2 i3 hn pa pl hhv HA HPS

  go_enter Tryz.func61, Tryz.ntmps61
  go_wp2_with (at_lookup; refine wpList_lookup_own_int _ rfl _ _ 114 rfl 3 2 .i64 lawK Tryz.underlying114 Tryz.underlying2 (zero2 _) m _ _ rfl MW.out _ _ rfl (keyI HX.out) ?_; intro c hat hwc; rw [mapD_at] at hat; obtain rfl : hv = c := by rw [← HHV.out]; simpa using hat)
  refine (AD _).mono ?_
  rintro r w1 ⟨rfl, hb1⟩
  have BX := hide (Box.below (Box.new w (.int .i64 0) (.int .i64 0) 38) hb1)
  have b1 := hide (below1 hb1)
  have s1 := b1.out.size
  have P1 := hide (HP.out.below b1.out)
  clear AD k5 t1 t2 hb1 hwc
  have o0 := (Below.refl w1.heap.size w1).alloc (Nat.le_refl _) (.cells #[.int .i64 0] 2)
  have o1 := hide (o0.alloc (by simp) (.cells #[.int .i64 hv, .int .i64 d] 2))
  have SN := hide (show Seen ((w1.alloc (.cells #[.int .i64 0] 2)).alloc (.cells #[.int .i64 hv, .int .i64 d] 2)) (some ⟨w1.heap.size + 1, 0, none⟩) [hv, d] from by have := seen2 (w1.alloc (.cells #[.int .i64 0] 2)) hv d 2; simpa using this)
  have P2 := hide (P1.out.below o1.out)
  have BX := hide (BX.out.below o1.out)
  have b2 := hide (b1.out.trans (o1.out.mono s1))
  clear o0
  obtain ⟨w2, hw2⟩ : ∃ w2, w2 = ((w1.alloc (.cells #[.int .i64 0] 2)).alloc (.cells #[.int .i64 hv, .int .i64 d] 2)) := ⟨_, rfl⟩
  have k3 := P2.out.c3
  have k4 := P2.out.c4
  rw [← hw2] at SN P2 BX b2 k3 k4
  have HW2 := hide hw2
  have hz2 := b2.out.size
  go_upto_region 8 with fail
  rw [← HW2.out]
  clear o1 P1 hw2 HW2
  go_wp2_with fail
  refine (WO _).mono ?_
  rintro r w3 ⟨rfl, hb3⟩
  have SN := hide (SN.out.below hb3)
  have P3 := hide (P2.out.below hb3)
  have BX := hide (BX.out.below hb3)
  have b3 := hide (b2.out.trans (hb3.mono hz2))
  clear WO k3 k4 P2 b2 hb3
  go_wp2_with fail
  refine (RC (some ⟨w1.heap.size + 1, 0, none⟩) 2 w3 SN.out).mono ?_
  rintro r w4 ⟨rfl, hb4⟩
  have P4 := hide (P3.out.below hb4)
  have BX4 := hide (BX.out.below hb4)
  have b4 := hide (b3.out.trans (hb4.mono b3.out.size))
  clear RC P3 SN b3 hb4
  have o5 := (Below.refl w4.heap.size w4).alloc (Nat.le_refl _) (.cells #[.int .i64 RL, .int .i64 RH] 38)
  have P5 := hide (P4.out.below o5)
  have BX := hide (BX4.out.below o5)
  have B5 := hide (Box.new w4 (.int .i64 RL) (.int .i64 RH) 38)
  have b5 := hide (b4.out.trans (o5.mono b4.out.size))
  have r4 := BX4.out.1
  go_upto_region 9 with fail
  obtain ⟨w5, hw5⟩ : ∃ w5, w5 = w4.alloc (.cells #[.int .i64 RL, .int .i64 RH] 38) := ⟨_, rfl⟩
  rw [← hw5] at P5 BX B5 b5 ⊢
  clear o5 P4 hw5
  obtain ⟨y0, y1, y2, y3, y4⟩ := B5.out
  have k0 := P5.out.c0
  have k1 := P5.out.c1
  have hg : w4.heap.size ≠ w.heap.size := by omega
  rcases HRE.out with rfl | rfl
  · by_cases hi : inB RL RH e.lo e.hi = true
    · have Y := hide (HYES.out rfl hi)
      rw [hi] at IN
      clear HYES HNO HRE
      refine wp_region_held_drew (S := fun wq => wq.cell? ⟨w4.heap.size, 0, none⟩ = some (.int .i64 RL) ∧ wq.cell? ⟨w4.heap.size, 1, none⟩ = some (.int .i64 RH) ∧ wq.cell? ⟨b, 0, none⟩ = some (.int .i64 e.lo) ∧ wq.cell? ⟨b, 1, none⟩ = some (.int .i64 e.hi)) (by kernel_rfl) ⟨y1, y2, k0, k1⟩ (fun hS => ?_)
      have P6 := hide (P5.out.below (Below.refl _ _).drew)
      have B6 := hide (B5.out.below (Below.refl _ _).drew)
      have BX6 := hide (BX.out.below (Below.refl _ _).drew)
      have b6 := hide b5.out.drew
      clear y1 y2 y3 y4 k0 k1 P5 B5 BX b5
      generalize w5.drew = w6 at *
      refine take_at 0 (some 52) (v := ?_) rfl rfl (by kernel_rfl) (by kernel_rfl) (by kernel_rfl) (fun _ _ _ h => h) ⟨by rfl, ?_⟩ hS ?_
      rotate_left
      · intro wq hSw; go_simp; try rfl
      simp only [Act.put, List.setIfInBounds_toArray, List.set_cons_zero, List.set_cons_succ]
      refine take_at 1 (some 53) (v := ?_) rfl rfl (by kernel_rfl) (by kernel_rfl) (by kernel_rfl) (fun _ _ _ h => h) ⟨by rfl, ?_⟩ hS ?_
      rotate_left
      · intro wq hSw; go_simp; try rfl
      simp only [Act.put, List.setIfInBounds_toArray, List.set_cons_zero, List.set_cons_succ]
      refine take_at 2 (some 54) (v := ?_) rfl rfl (by kernel_rfl) (by kernel_rfl) (by kernel_rfl) (fun _ _ _ h => h) ⟨by rfl, ?_⟩ hS ?_
      rotate_left
      · intro wq hSw; go_simp; try rfl
      simp only [Act.put, List.setIfInBounds_toArray, List.set_cons_zero, List.set_cons_succ]
      refine take_at 3 (some 55) (v := ?_) rfl rfl (by kernel_rfl) (by kernel_rfl) (by kernel_rfl) (fun _ _ _ h => h) ⟨by rfl, ?_⟩ hS ?_
      rotate_left
      · intro wq hSw; obtain ⟨r0, r1, r2, r3⟩ := hSw; go_simp; try rfl
      simp only [Act.put, List.setIfInBounds_toArray, List.set_cons_zero, List.set_cons_succ]
      refine take_at 4 (some 56) (v := ?_) rfl rfl (by kernel_rfl) (by kernel_rfl) (by kernel_rfl) (fun _ _ _ h => h) ⟨by rfl, ?_⟩ hS ?_
      rotate_left
      · intro wq hSw; go_simp; try rfl
      simp only [Act.put, List.setIfInBounds_toArray, List.set_cons_zero, List.set_cons_succ]
      refine take_at 5 (some 57) (v := ?_) rfl rfl (by kernel_rfl) (by kernel_rfl) (by kernel_rfl) (fun _ _ _ h => h) ⟨by rfl, ?_⟩ hS ?_
      rotate_left
      · intro wq hSw; go_simp; try rfl
      simp only [Act.put, List.setIfInBounds_toArray, List.set_cons_zero, List.set_cons_succ]
      refine take_at 6 (some 58) (v := ?_) rfl rfl (by kernel_rfl) (by kernel_rfl) (by kernel_rfl) (fun _ _ _ h => h) ⟨by rfl, ?_⟩ hS ?_
      rotate_left
      · intro wq hSw; go_simp; try rfl
      simp only [Act.put, List.setIfInBounds_toArray, List.set_cons_zero, List.set_cons_succ]
      refine take_at 7 (some 59) (v := ?_) rfl rfl (by kernel_rfl) (by kernel_rfl) (by kernel_rfl) (fun _ _ _ h => h) ⟨by rfl, ?_⟩ hS ?_
      rotate_left
      · intro wq hSw; obtain ⟨r0, r1, r2, r3⟩ := hSw; go_simp; try rfl
      simp only [Act.put, List.setIfInBounds_toArray, List.set_cons_zero, List.set_cons_succ]
      refine wpAnyH_ready (rs := [8]) (by kernel_rfl) (by simp) ?_
      refine AllReadyH.cons rfl (fun K hK => ?_) AllReadyH.nil
      go_simp
      go_wp2_with fail
      refine (IN _).mono ?_
      rintro r w7 ⟨rfl, hb7⟩
      have P7 := hide (P6.out.below hb7)
      have B7 := hide (B6.out.below hb7)
      have BX7 := hide (BX6.out.below hb7)
      have b7 := hide (b6.out.trans (hb7.mono b6.out.size))
      clear hb7 P6 B6 BX6 b6
      go_wp2_with fail
      refine hK.out _ _ ⟨B7.out.2.1, B7.out.2.2.1, P7.out.c0, P7.out.c1⟩ (fun hS => ?_)
      clear hK K
      clear IN
      (try simp only [Act.put, List.setIfInBounds_toArray, List.set_cons_zero, List.set_cons_succ])
      refine take_at 9 (some 61) (v := ?_) rfl rfl (by kernel_rfl) (by kernel_rfl) (by kernel_rfl) (fun _ _ _ h => h) ⟨by rfl, ?_⟩ hS ?_
      rotate_left
      · intro wq hSw; go_simp; try rfl
      simp only [Act.put, List.setIfInBounds_toArray, List.set_cons_zero, List.set_cons_succ]
      refine take_at 10 (some 62) (v := ?_) rfl rfl (by kernel_rfl) (by kernel_rfl) (by kernel_rfl) (fun _ _ _ h => h) ⟨by rfl, ?_⟩ hS ?_
      rotate_left
      · intro wq hSw; go_simp; try rfl
      simp only [Act.put, List.setIfInBounds_toArray, List.set_cons_zero, List.set_cons_succ]
      refine wpAnyH_done (by kernel_rfl) ?_ _
      clear hS
      obtain ⟨u0, u1, u2, u3, u4⟩ := BX7.out
      go_wp2_with fail
      have BF := Box.set BX7.out (.int .i64 0) (.int .i64 0)
      obtain ⟨z0, z1, z2, z3, z4⟩ := BF
      refine bodyPost_ret (v := .tuple #[.int .i64 N0, rng L0 H0, .int .i64 M0]) (by rw [Y.out.1, Y.out.2.1, Y.out.2.2.1, Y.out.2.2.2]; simp [results, Tryz.results61, go_sem, z1, z2]) rfl ⟨rfl, ?_⟩
      exact ((b7.out.setCell (Nat.le_refl _) _).setCell (Nat.le_refl _) _)
    · have hi : inB RL RH e.lo e.hi = false := by simpa using hi
      have Y := hide (HNO.out (.inr hi))
      rw [hi] at IN
      clear HYES HNO HRE
      refine wp_region_held_drew (S := fun wq => wq.cell? ⟨w4.heap.size, 0, none⟩ = some (.int .i64 RL) ∧ wq.cell? ⟨w4.heap.size, 1, none⟩ = some (.int .i64 RH) ∧ wq.cell? ⟨b, 0, none⟩ = some (.int .i64 e.lo) ∧ wq.cell? ⟨b, 1, none⟩ = some (.int .i64 e.hi)) (by kernel_rfl) ⟨y1, y2, k0, k1⟩ (fun hS => ?_)
      have P6 := hide (P5.out.below (Below.refl _ _).drew)
      have B6 := hide (B5.out.below (Below.refl _ _).drew)
      have BX6 := hide (BX.out.below (Below.refl _ _).drew)
      have b6 := hide b5.out.drew
      clear y1 y2 y3 y4 k0 k1 P5 B5 BX b5
      generalize w5.drew = w6 at *
      refine take_at 0 (some 52) (v := ?_) rfl rfl (by kernel_rfl) (by kernel_rfl) (by kernel_rfl) (fun _ _ _ h => h) ⟨by rfl, ?_⟩ hS ?_
      rotate_left
      · intro wq hSw; go_simp; try rfl
      simp only [Act.put, List.setIfInBounds_toArray, List.set_cons_zero, List.set_cons_succ]
      refine take_at 1 (some 53) (v := ?_) rfl rfl (by kernel_rfl) (by kernel_rfl) (by kernel_rfl) (fun _ _ _ h => h) ⟨by rfl, ?_⟩ hS ?_
      rotate_left
      · intro wq hSw; go_simp; try rfl
      simp only [Act.put, List.setIfInBounds_toArray, List.set_cons_zero, List.set_cons_succ]
      refine take_at 2 (some 54) (v := ?_) rfl rfl (by kernel_rfl) (by kernel_rfl) (by kernel_rfl) (fun _ _ _ h => h) ⟨by rfl, ?_⟩ hS ?_
      rotate_left
      · intro wq hSw; go_simp; try rfl
      simp only [Act.put, List.setIfInBounds_toArray, List.set_cons_zero, List.set_cons_succ]
      refine take_at 3 (some 55) (v := ?_) rfl rfl (by kernel_rfl) (by kernel_rfl) (by kernel_rfl) (fun _ _ _ h => h) ⟨by rfl, ?_⟩ hS ?_
      rotate_left
      · intro wq hSw; obtain ⟨r0, r1, r2, r3⟩ := hSw; go_simp; try rfl
      simp only [Act.put, List.setIfInBounds_toArray, List.set_cons_zero, List.set_cons_succ]
      refine take_at 4 (some 56) (v := ?_) rfl rfl (by kernel_rfl) (by kernel_rfl) (by kernel_rfl) (fun _ _ _ h => h) ⟨by rfl, ?_⟩ hS ?_
      rotate_left
      · intro wq hSw; go_simp; try rfl
      simp only [Act.put, List.setIfInBounds_toArray, List.set_cons_zero, List.set_cons_succ]
      refine take_at 5 (some 57) (v := ?_) rfl rfl (by kernel_rfl) (by kernel_rfl) (by kernel_rfl) (fun _ _ _ h => h) ⟨by rfl, ?_⟩ hS ?_
      rotate_left
      · intro wq hSw; go_simp; try rfl
      simp only [Act.put, List.setIfInBounds_toArray, List.set_cons_zero, List.set_cons_succ]
      refine take_at 6 (some 58) (v := ?_) rfl rfl (by kernel_rfl) (by kernel_rfl) (by kernel_rfl) (fun _ _ _ h => h) ⟨by rfl, ?_⟩ hS ?_
      rotate_left
      · intro wq hSw; go_simp; try rfl
      simp only [Act.put, List.setIfInBounds_toArray, List.set_cons_zero, List.set_cons_succ]
      refine take_at 7 (some 59) (v := ?_) rfl rfl (by kernel_rfl) (by kernel_rfl) (by kernel_rfl) (fun _ _ _ h => h) ⟨by rfl, ?_⟩ hS ?_
      rotate_left
      · intro wq hSw; obtain ⟨r0, r1, r2, r3⟩ := hSw; go_simp; try rfl
      simp only [Act.put, List.setIfInBounds_toArray, List.set_cons_zero, List.set_cons_succ]
      refine wpAnyH_ready (rs := [8]) (by kernel_rfl) (by simp) ?_
      refine AllReadyH.cons rfl (fun K hK => ?_) AllReadyH.nil
      go_simp
      go_wp2_with fail
      refine (IN _).mono ?_
      rintro r w7 ⟨rfl, hb7⟩
      have P7 := hide (P6.out.below hb7)
      have B7 := hide (B6.out.below hb7)
      have BX7 := hide (BX6.out.below hb7)
      have b7 := hide (b6.out.trans (hb7.mono b6.out.size))
      clear hb7 P6 B6 BX6 b6
      go_wp2_with fail
      refine hK.out _ _ ⟨B7.out.2.1, B7.out.2.2.1, P7.out.c0, P7.out.c1⟩ (fun hS => ?_)
      clear hK K
      clear IN
      (try simp only [Act.put, List.setIfInBounds_toArray, List.set_cons_zero, List.set_cons_succ])
      refine take_at 9 (some 61) (v := ?_) rfl rfl (by kernel_rfl) (by kernel_rfl) (by kernel_rfl) (fun _ _ _ h => h) ⟨by rfl, ?_⟩ hS ?_
      rotate_left
      · intro wq hSw; go_simp; try rfl
      simp only [Act.put, List.setIfInBounds_toArray, List.set_cons_zero, List.set_cons_succ]
      refine take_at 10 (some 62) (v := ?_) rfl rfl (by kernel_rfl) (by kernel_rfl) (by kernel_rfl) (fun _ _ _ h => h) ⟨by rfl, ?_⟩ hS ?_
      rotate_left
      · intro wq hSw; go_simp; try rfl
      simp only [Act.put, List.setIfInBounds_toArray, List.set_cons_zero, List.set_cons_succ]
      refine wpAnyH_done (by kernel_rfl) ?_ _
      clear hS
      obtain ⟨u0, u1, u2, u3, u4⟩ := BX7.out
      go_wp2_with fail
      have BF := Box.set BX7.out (.int .i64 0) (.int .i64 0)
      obtain ⟨z0, z1, z2, z3, z4⟩ := BF
      refine bodyPost_ret (v := .tuple #[.int .i64 N0, rng L0 H0, .int .i64 M0]) (by rw [Y.out.1, Y.out.2.1, Y.out.2.2.1, Y.out.2.2.2]; simp [results, Tryz.results61, go_sem, z1, z2]) rfl ⟨rfl, ?_⟩
      exact ((b7.out.setCell (Nat.le_refl _) _).setCell (Nat.le_refl _) _)
  · have Y := hide (HNO.out (.inl (by omega)))
    clear HYES HNO HRE IN
    refine wp_region_held_drew (S := fun _ => True) (by kernel_rfl) trivial (fun hS => ?_)
    have BX7 := hide (BX.out.below (Below.refl _ _).drew)
    have b7 := hide b5.out.drew
    clear y1 y2 y3 y4 k0 k1 P5 B5 BX b5
    generalize w5.drew = w7 at *
    refine take_at 0 (some 52) (v := ?_) rfl rfl (by kernel_rfl) (by kernel_rfl) (by kernel_rfl) (fun _ _ _ h => h) ⟨by rfl, ?_⟩ hS ?_
    rotate_left
    · intro wq hSw; go_simp; try rfl
    simp only [Act.put, List.setIfInBounds_toArray, List.set_cons_zero, List.set_cons_succ]
    refine take_at 1 (some 53) (v := ?_) rfl rfl (by kernel_rfl) (by kernel_rfl) (by kernel_rfl) (fun _ _ _ h => h) ⟨by rfl, ?_⟩ hS ?_
    rotate_left
    · intro wq hSw; go_simp; try rfl
    simp only [Act.put, List.setIfInBounds_toArray, List.set_cons_zero, List.set_cons_succ]
    refine take_at 2 (some 54) (v := ?_) rfl rfl (by kernel_rfl) (by kernel_rfl) (by kernel_rfl) (fun _ _ _ h => h) ⟨by rfl, ?_⟩ hS ?_
    rotate_left
    · intro wq hSw; go_simp; try rfl
    simp only [Act.put, List.setIfInBounds_toArray, List.set_cons_zero, List.set_cons_succ]
    refine pass_at 3 (some 55) rfl rfl (by kernel_rfl) (by kernel_rfl) (by kernel_rfl) (fun _ _ _ h => h) (by rfl) hS ?_
    simp only [Act.put, List.setIfInBounds_toArray, List.set_cons_zero, List.set_cons_succ]
    refine pass_at 4 (some 56) rfl rfl (by kernel_rfl) (by kernel_rfl) (by kernel_rfl) (fun _ _ _ h => h) (by rfl) hS ?_
    simp only [Act.put, List.setIfInBounds_toArray, List.set_cons_zero, List.set_cons_succ]
    refine pass_at 5 (some 57) rfl rfl (by kernel_rfl) (by kernel_rfl) (by kernel_rfl) (fun _ _ _ h => h) (by rfl) hS ?_
    simp only [Act.put, List.setIfInBounds_toArray, List.set_cons_zero, List.set_cons_succ]
    refine pass_at 6 (some 58) rfl rfl (by kernel_rfl) (by kernel_rfl) (by kernel_rfl) (fun _ _ _ h => h) (by rfl) hS ?_
    simp only [Act.put, List.setIfInBounds_toArray, List.set_cons_zero, List.set_cons_succ]
    refine pass_at 7 (some 59) rfl rfl (by kernel_rfl) (by kernel_rfl) (by kernel_rfl) (fun _ _ _ h => h) (by rfl) hS ?_
    simp only [Act.put, List.setIfInBounds_toArray, List.set_cons_zero, List.set_cons_succ]
    refine pass_at 8 (some 60) rfl rfl (by kernel_rfl) (by kernel_rfl) (by kernel_rfl) (fun _ _ _ h => h) (by rfl) hS ?_
    simp only [Act.put, List.setIfInBounds_toArray, List.set_cons_zero, List.set_cons_succ]
    refine pass_at 9 (some 61) rfl rfl (by kernel_rfl) (by kernel_rfl) (by kernel_rfl) (fun _ _ _ h => h) (by rfl) hS ?_
    simp only [Act.put, List.setIfInBounds_toArray, List.set_cons_zero, List.set_cons_succ]
    refine take_at 10 (some 62) (v := ?_) rfl rfl (by kernel_rfl) (by kernel_rfl) (by kernel_rfl) (fun _ _ _ h => h) ⟨by rfl, ?_⟩ hS ?_
    rotate_left
    · intro wq hSw; go_simp; try rfl
    simp only [Act.put, List.setIfInBounds_toArray, List.set_cons_zero, List.set_cons_succ]
    refine wpAnyH_done (by kernel_rfl) ?_ _
    clear hS
    obtain ⟨u0, u1, u2, u3, u4⟩ := BX7.out
    go_wp2_with fail
    have BF := Box.set BX7.out (.int .i64 0) (.int .i64 0)
    obtain ⟨z0, z1, z2, z3, z4⟩ := BF
    refine bodyPost_ret (v := .tuple #[.int .i64 N0, rng L0 H0, .int .i64 M0]) (by rw [Y.out.1, Y.out.2.1, Y.out.2.2.1, Y.out.2.2.2]; simp [results, Tryz.results61, go_sem, z1, z2]) rfl ⟨rfl, ?_⟩
    exact ((b7.out.setCell (Nat.le_refl _) _).setCell (Nat.le_refl _) _)

theorem weigh_any (b m : Nat) (e : Esc) (tx d : Int) (w : World) (h : PE w b m e) (hx : I64 tx) (hd : I64 d) :
    Calls Tryz.prog 61 #[ptr b, .int .i64 tx, .int .i64 d] w fun r w' => r = .returned (.tuple #[.int .i64 (wN e tx d), rng (wL e tx d) (wH e tx d), .int .i64 (mayE e tx d)]) ∧ Below w.heap.size w w' := by
  by_cases ht : tx < 1 ∨ 2147483647 < tx
  · exact weigh_tx b e tx d w ht
  · cases hf : fitB (netV e.nets tx + d)
    · exact weigh_not b m e tx d w h hx hd ht hf
    · exact weigh_fit b m e tx d w h hx hd ht hf

set_option maxHeartbeats 1000000 in
theorem may_any (b m : Nat) (e : Esc) (tx d : Int) (w : World) (h : PE w b m e) (hx : I64 tx) (hd : I64 d) :
    Calls Tryz.prog 26 #[ptr b, .int .i64 tx, .int .i64 d] w fun r w' => r = .returned (.int .i64 (mayE e tx d)) ∧ Below w.heap.size w w' := by
  have K := weigh_any b m e tx d w h hx hd
  generalize wN e tx d = n0 at *
  generalize wL e tx d = l0 at *
  generalize wH e tx d = h0 at *
  generalize mayE e tx d = m0 at *
  clear h hx hd
  go_enter Tryz.func26, Tryz.ntmps26
  go_wp2_with fail
  refine K.mono ?_
  rintro r w1 ⟨rfl, hb⟩
  go_wp2_with fail
  go_ret
  exact ⟨rfl, hb.alloc hb.size _⟩
end Go.Proofs.YtaohdmaenplbpaaGreat
