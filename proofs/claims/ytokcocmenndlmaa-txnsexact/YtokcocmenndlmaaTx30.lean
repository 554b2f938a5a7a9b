import Derived.Test.YtokcocmenndlmaaTx29
namespace Go.Proofs.Ytokcocmenndlmaa
open Go.RowKit Go.QK Go.Maps Go.QM Go.QT
set_option maxRecDepth 100000
theorem KeepPost.bel {lab : Nat → Nat} {w w' : World} {B : Nat} {T : Tab} {ga : Nat} (h : Tb lab w B T) (k : KeepPost lab w B T ga w') (hg : B ≤ ga) : Below B w w' := by
  refine k.kp.below (by have := h.low.1; have := h.box.1; omega) (fun z hz q => ?_)
  rcases q with q | q | q | q
  · have := h.low.1; omega
  · have := (World.ownsRow.lt h.rl z q).1; omega
  · have := (World.ownsRow.lt h.rm z q).1; omega
  · omega
/-- Another list beside one that was kept. -/
theorem KeepPost.beside {lab : Nat → Nat} {w w' : World} {B : Nat} {T : Tab} {ga : Nat} (h : Tb lab w B T) (k : KeepPost lab w B T ga w') {gb cap n : Nat} {xs : List Value} (ho : GRow w B 26 4 (.slice (some ⟨gb, 0, none⟩) n cap) n xs) (hl : lab gb = 9) (hne : gb ≠ ga) : GRow w' B 26 4 (.slice (some ⟨gb, 0, none⟩) n cap) n xs := by
  refine GRow.keep ho k.kp (fun g hg q => ?_)
  obtain rfl : gb = g := by simpa [Value.ownBlock] using hg
  rcases q with q | q | q | q
  · rw [q] at hl; have := h.l1; omega
  · have := h.l6 _ q; omega
  · have := h.l7 _ q; omega
  · exact hne q
set_option maxHeartbeats 8000000 in
theorem lists_any (lab : Nat → Nat) (B : Nat) (T : Tab) (i : Nat) (w : World) (h : Tb lab w B T) (hi : i < 2) (he : ∀ j, j < 2 → T.rp j = T.rq j) (hm : T.ls.length + 2 ≤ 100000) : Calls Try.prog 35 #[ptr T.t, .int .i64 (i : Int)] w (TPost 2 w B T) := by
  unfold TPost
  have few := (h.pr i hi).ok.few
  obtain ⟨lb, hlb⟩ : ∃ l, l = ext lab w.heap.size 9 := ⟨_, rfl⟩
  have NEW := hide (show ∀ x, w.heap.size ≤ x → lb x = 9 from fun x hx => by rw [hlb]; exact ext_new hx)
  have H0 := h.relab (lab' := lb) (fun x hx => by rw [hlb]; exact ext_old hx)
  have HBS := hide (show B ≤ w.heap.size by have := h.low.1; have := h.box.1; omega)
  have K1 := fun w' (h : Tb lb w' B T) => live_any (T.b i) (T.m i) (T.rp i) w' (h.pr i hi)
  have K2 := fun w' (h : Tb lb w' B T) => rlive_any B (T.c i) (T.v i) (T.rq i) w' (h.rr i hi)
  have K3 := fun w' (h : Tb lb w' B T) => next_any (T.b i) (T.m i) (T.rp i) w' (h.pr i hi)
  have K4 := fun w' (h : Tb lb w' B T) => rnext_any B (T.c i) (T.v i) (T.rq i) w' (h.rr i hi)
  rw [← he i hi] at K2 K4
  generalize (T.rp i).L = LC at *
  generalize (T.rp i).next = nx at *
  have HQ := hide he
  have HT := hide H0
  have HB := hide (Below.refl w.heap.size w)
  obtain ⟨kp, -⟩ := h.cP hi
  have hi2 : (i : Int) < 2 := by omega
  clear h H0 he hlb
  go_enter Try.func35, Try.ntmps35
  go_wp2_with fail
  refine (K1 _ HT.out).mono ?_
  rintro e w1 ⟨va, rfl, oa, na, hh⟩
  obtain ⟨ga, ca, rfl, ga1, ga2, -⟩ := row_form oa na
  have OA := hide (GRow.mono oa HBS.out)
  have GA := hide (show w.heap.size ≤ ga ∧ ga < w1.heap.size from ⟨ga1, ga2⟩)
  have HT1 := hide (HT.out.below hh)
  have HB1 := hide (HB.out.trans (hh.mono HB.out.size))
  clear oa na hh ga1 ga2 HT HB kp
  obtain ⟨kp, -⟩ := HT1.out.cP hi
  go_wp2_with fail
  refine (K1 _ HT1.out).mono ?_
  rintro e w2 ⟨vb, rfl, ob, nb, hh⟩
  obtain ⟨gb, cb, rfl, gb1, gb2, -⟩ := row_form ob nb
  have OB := hide (GRow.mono ob (Nat.le_trans HBS.out HB1.out.size))
  have GB := hide (show ga < gb ∧ gb < w2.heap.size by have := GA.out; omega)
  have OA2 := hide (GRow.below OA.out hh)
  have HT2 := hide (HT1.out.below hh)
  have HB2 := hide (HB1.out.trans (hh.mono HB1.out.size))
  clear ob nb hh gb1 gb2 HT1 HB1 kp OA K1
  go_upto_region 3 with fail
  refine wp_region_held_drew (S := fun wq => Below w2.heap.size w2 wq) (by kernel_rfl) (Below.refl _ _).drew (fun hS => ?_)
  refine take_at 0 (some 22) (v := ?_) rfl rfl (by kernel_rfl) (by kernel_rfl) (by kernel_rfl) (fun _ _ _ h => h) ⟨by rfl, ?_⟩ hS ?_
  rotate_left
  · intro wq hSw; go_simp; try rfl
  simp only [Act.put, List.setIfInBounds_toArray, List.set_cons_zero, List.set_cons_succ]
  refine take_at 1 (some 23) (v := ?_) rfl rfl (by kernel_rfl) (by kernel_rfl) (by kernel_rfl) (fun _ _ _ h => h) ⟨by rfl, ?_⟩ hS ?_
  rotate_left
  · intro wq hSw; go_simp; try rfl
  simp only [Act.put, List.setIfInBounds_toArray, List.set_cons_zero, List.set_cons_succ]
  refine take_at 2 (some 24) (v := ?_) rfl rfl (by kernel_rfl) (by kernel_rfl) (by kernel_rfl) (fun _ _ _ h => h) ⟨by rfl, ?_⟩ hS ?_
  rotate_left
  · intro wq hSw; go_simp; try rfl
  simp only [Act.put, List.setIfInBounds_toArray, List.set_cons_zero, List.set_cons_succ]
  refine take_at 3 (some 25) (v := ?_) rfl rfl (by kernel_rfl) (by kernel_rfl) (by kernel_rfl) (fun _ _ _ h => h) ⟨by rfl, ?_⟩ hS ?_
  rotate_left
  · intro wq hSw; go_simp; try rfl
  simp only [Act.put, List.setIfInBounds_toArray, List.set_cons_zero, List.set_cons_succ]
  refine take_at 4 (some 26) (v := ?_) rfl rfl (by kernel_rfl) (by kernel_rfl) (by kernel_rfl) (fun _ _ _ h => h) ⟨by rfl, ?_⟩ hS ?_
  rotate_left
  · intro wq hSw; go_simp; try rfl
  simp only [Act.put, List.setIfInBounds_toArray, List.set_cons_zero, List.set_cons_succ]
  refine take_at 5 (some 27) (v := ?_) rfl rfl (by kernel_rfl) (by kernel_rfl) (by kernel_rfl) (fun _ _ _ h => h) ⟨by rfl, ?_⟩ hS ?_
  rotate_left
  · intro wq hSw; go_simp; try rfl
  simp only [Act.put, List.setIfInBounds_toArray, List.set_cons_zero, List.set_cons_succ]
  refine take_at 6 (some 28) (v := ?_) rfl rfl (by kernel_rfl) (by kernel_rfl) (by kernel_rfl) (fun _ _ _ h => h) ⟨by rfl, ?_⟩ hS ?_
  rotate_left
  · intro wq hSw; have q := ((HT2.out.below hSw).cR hi).1; go_simp; try rfl
  simp only [Act.put, List.setIfInBounds_toArray, List.set_cons_zero, List.set_cons_succ]
  refine wpAnyH_ready (rs := [7]) (by kernel_rfl) (by simp) ?_
  refine AllReadyH.cons rfl (fun K hK => ?_) AllReadyH.nil
  go_simp
  go_wp2_with fail
  refine (K2 _ (HT2.out.below hS)).mono ?_
  rintro e x1 ⟨ve, rfl, oe, hh⟩
  obtain ⟨ae, ce, rfl, le, -⟩ := GRow.lies oe
  have D1 := hide (hS.trans (hh.mono hS.size))
  have LE := hide le
  clear oe hh hS le
  go_wp2_with fail
  refine hK.out _ _ D1.out (fun hS => ?_)
  clear hK K
  (try simp only [Act.put, List.setIfInBounds_toArray, List.set_cons_zero, List.set_cons_succ])
  obtain ⟨aa, cc, ee, la, -⟩ := GRow.lies (GRow.below OA2.out D1.out)
  cases ee
  have LA := hide la
  clear la
  refine wpAnyH_ready (rs := [8]) (by kernel_rfl) (by simp) ?_
  refine AllReadyH.cons rfl (fun K hK => ?_) AllReadyH.nil
  go_simp
  go_wp2_with fail
  refine (same_true LC _ _ _ _ _ LA.out LE.out (by omega)).mono ?_
  rintro e x2 ⟨rfl, hh⟩
  have D2 := hide (D1.out.trans (hh.mono D1.out.size))
  clear hh LE LA hS
  go_wp2_with fail
  refine hK.out _ _ D2.out (fun hS => ?_)
  clear hK K
  (try simp only [Act.put, List.setIfInBounds_toArray, List.set_cons_zero, List.set_cons_succ])
  obtain ⟨aa, cc, ee, la, -⟩ := GRow.lies (GRow.below OA2.out D2.out)
  cases ee
  obtain ⟨ab, cbb, ee, lbb, -⟩ := GRow.lies (GRow.below OB.out D2.out)
  cases ee
  have LA := hide la
  have LB := hide lbb
  clear la lbb D1
  refine take_at 9 (some 31) (v := ?_) rfl rfl (by kernel_rfl) (by kernel_rfl) (by kernel_rfl) (fun _ _ _ h => h) ⟨by rfl, ?_⟩ hS ?_
  rotate_left
  · intro wq hSw; go_simp; try rfl
  simp only [Act.put, List.setIfInBounds_toArray, List.set_cons_zero, List.set_cons_succ]
  refine take_at 10 (some 32) (v := ?_) rfl rfl (by kernel_rfl) (by kernel_rfl) (by kernel_rfl) (fun _ _ _ h => h) ⟨by rfl, ?_⟩ hS ?_
  rotate_left
  · intro wq hSw; go_simp; try rfl
  simp only [Act.put, List.setIfInBounds_toArray, List.set_cons_zero, List.set_cons_succ]
  refine take_at 11 (some 33) (v := ?_) rfl rfl (by kernel_rfl) (by kernel_rfl) (by kernel_rfl) (fun _ _ _ h => h) ⟨by rfl, ?_⟩ hS ?_
  rotate_left
  · intro wq hSw; go_simp; try rfl
  simp only [Act.put, List.setIfInBounds_toArray, List.set_cons_zero, List.set_cons_succ]
  refine wpAnyH_ready (rs := [12]) (by kernel_rfl) (by simp) ?_
  refine AllReadyH.cons rfl (fun K hK => ?_) AllReadyH.nil
  go_simp
  go_wp2_with fail
  refine (same_true LC _ _ _ _ _ LB.out LA.out (by omega)).mono ?_
  rintro e x3 ⟨rfl, hh⟩
  have D3 := hide (D2.out.trans (hh.mono D2.out.size))
  clear hh LB LA hS
  go_wp2_with fail
  refine hK.out _ _ D3.out (fun hS => ?_)
  clear hK K
  (try simp only [Act.put, List.setIfInBounds_toArray, List.set_cons_zero, List.set_cons_succ])
  clear D2
  refine take_at 13 (some 35) (v := ?_) rfl rfl (by kernel_rfl) (by kernel_rfl) (by kernel_rfl) (fun _ _ _ h => h) ⟨by rfl, ?_⟩ hS ?_
  rotate_left
  · intro wq hSw; go_simp; try rfl
  simp only [Act.put, List.setIfInBounds_toArray, List.set_cons_zero, List.set_cons_succ]
  refine take_at 14 (some 36) (v := ?_) rfl rfl (by kernel_rfl) (by kernel_rfl) (by kernel_rfl) (fun _ _ _ h => h) ⟨by rfl, ?_⟩ hS ?_
  rotate_left
  · intro wq hSw; go_simp; try rfl
  simp only [Act.put, List.setIfInBounds_toArray, List.set_cons_zero, List.set_cons_succ]
  refine take_at 15 (some 37) (v := ?_) rfl rfl (by kernel_rfl) (by kernel_rfl) (by kernel_rfl) (fun _ _ _ h => h) ⟨by rfl, ?_⟩ hS ?_
  rotate_left
  · intro wq hSw; go_simp; try rfl
  simp only [Act.put, List.setIfInBounds_toArray, List.set_cons_zero, List.set_cons_succ]
  refine take_at 16 (some 38) (v := ?_) rfl rfl (by kernel_rfl) (by kernel_rfl) (by kernel_rfl) (fun _ _ _ h => h) ⟨by rfl, ?_⟩ hS ?_
  rotate_left
  · intro wq hSw; go_simp; try rfl
  simp only [Act.put, List.setIfInBounds_toArray, List.set_cons_zero, List.set_cons_succ]
  refine take_at 17 (some 39) (v := ?_) rfl rfl (by kernel_rfl) (by kernel_rfl) (by kernel_rfl) (fun _ _ _ h => h) ⟨by rfl, ?_⟩ hS ?_
  rotate_left
  · intro wq hSw; go_simp; try rfl
  simp only [Act.put, List.setIfInBounds_toArray, List.set_cons_zero, List.set_cons_succ]
  refine take_at 18 (some 40) (v := ?_) rfl rfl (by kernel_rfl) (by kernel_rfl) (by kernel_rfl) (fun _ _ _ h => h) ⟨by rfl, ?_⟩ hS ?_
  rotate_left
  · intro wq hSw; go_simp; try rfl
  simp only [Act.put, List.setIfInBounds_toArray, List.set_cons_zero, List.set_cons_succ]
  refine take_at 19 (some 41) (v := ?_) rfl rfl (by kernel_rfl) (by kernel_rfl) (by kernel_rfl) (fun _ _ _ h => h) ⟨by rfl, ?_⟩ hS ?_
  rotate_left
  · intro wq hSw; go_simp; try rfl
  simp only [Act.put, List.setIfInBounds_toArray, List.set_cons_zero, List.set_cons_succ]
  refine take_at 20 (some 42) (v := ?_) rfl rfl (by kernel_rfl) (by kernel_rfl) (by kernel_rfl) (fun _ _ _ h => h) ⟨by rfl, ?_⟩ hS ?_
  rotate_left
  · intro wq hSw; have q := ((HT2.out.below hSw).cP hi).1; go_simp; try rfl
  simp only [Act.put, List.setIfInBounds_toArray, List.set_cons_zero, List.set_cons_succ]
  refine take_at 22 (some 44) (v := ?_) rfl rfl (by kernel_rfl) (by kernel_rfl) (by kernel_rfl) (fun _ _ _ h => h) ⟨by rfl, ?_⟩ hS ?_
  rotate_left
  · intro wq hSw; go_simp; try rfl
  simp only [Act.put, List.setIfInBounds_toArray, List.set_cons_zero, List.set_cons_succ]
  refine take_at 23 (some 45) (v := ?_) rfl rfl (by kernel_rfl) (by kernel_rfl) (by kernel_rfl) (fun _ _ _ h => h) ⟨by rfl, ?_⟩ hS ?_
  rotate_left
  · intro wq hSw; go_simp; try rfl
  simp only [Act.put, List.setIfInBounds_toArray, List.set_cons_zero, List.set_cons_succ]
  refine take_at 24 (some 46) (v := ?_) rfl rfl (by kernel_rfl) (by kernel_rfl) (by kernel_rfl) (fun _ _ _ h => h) ⟨by rfl, ?_⟩ hS ?_
  rotate_left
  · intro wq hSw; go_simp; try rfl
  simp only [Act.put, List.setIfInBounds_toArray, List.set_cons_zero, List.set_cons_succ]
  refine take_at 25 (some 47) (v := ?_) rfl rfl (by kernel_rfl) (by kernel_rfl) (by kernel_rfl) (fun _ _ _ h => h) ⟨by rfl, ?_⟩ hS ?_
  rotate_left
  · intro wq hSw; go_simp; try rfl
  simp only [Act.put, List.setIfInBounds_toArray, List.set_cons_zero, List.set_cons_succ]
  refine take_at 26 (some 48) (v := ?_) rfl rfl (by kernel_rfl) (by kernel_rfl) (by kernel_rfl) (fun _ _ _ h => h) ⟨by rfl, ?_⟩ hS ?_
  rotate_left
  · intro wq hSw; go_simp; try rfl
  simp only [Act.put, List.setIfInBounds_toArray, List.set_cons_zero, List.set_cons_succ]
  refine take_at 27 (some 49) (v := ?_) rfl rfl (by kernel_rfl) (by kernel_rfl) (by kernel_rfl) (fun _ _ _ h => h) ⟨by rfl, ?_⟩ hS ?_
  rotate_left
  · intro wq hSw; have q := ((HT2.out.below hSw).cR hi).1; go_simp; try rfl
  simp only [Act.put, List.setIfInBounds_toArray, List.set_cons_zero, List.set_cons_succ]
  refine wpAnyH_ready (rs := [21]) (by kernel_rfl) (by simp) ?_
  refine AllReadyH.cons rfl (fun K hK => ?_) AllReadyH.nil
  go_simp
  go_wp2_with fail
  refine (K3 _ (HT2.out.below D3.out)).mono ?_
  rintro e wz ⟨rfl, rfl⟩
  go_wp2_with fail
  refine hK.out _ _ D3.out (fun hS => ?_)
  clear hK K
  (try simp only [Act.put, List.setIfInBounds_toArray, List.set_cons_zero, List.set_cons_succ])
  refine wpAnyH_ready (rs := [28]) (by kernel_rfl) (by simp) ?_
  refine AllReadyH.cons rfl (fun K hK => ?_) AllReadyH.nil
  go_simp
  go_wp2_with fail
  refine (K4 _ (HT2.out.below D3.out)).mono ?_
  rintro e wz ⟨rfl, rfl⟩
  go_wp2_with fail
  refine hK.out _ _ D3.out (fun hS => ?_)
  clear hK K
  (try simp only [Act.put, List.setIfInBounds_toArray, List.set_cons_zero, List.set_cons_succ])
  refine take_at 29 (some 51) (v := ?_) rfl rfl (by kernel_rfl) (by kernel_rfl) (by kernel_rfl) (fun _ _ _ h => h) ⟨by rfl, ?_⟩ hS ?_
  rotate_left
  · intro wq hSw; go_simp; try rfl
  simp only [Act.put, List.setIfInBounds_toArray, List.set_cons_zero, List.set_cons_succ]
  refine take_at 30 (some 52) (v := ?_) rfl rfl (by kernel_rfl) (by kernel_rfl) (by kernel_rfl) (fun _ _ _ h => h) ⟨by rfl, ?_⟩ hS ?_
  rotate_left
  · intro wq hSw; go_simp; try rfl
  simp only [Act.put, List.setIfInBounds_toArray, List.set_cons_zero, List.set_cons_succ]
  refine take_at 31 (some 7) (v := ?_) rfl rfl (by kernel_rfl) (by kernel_rfl) (by kernel_rfl) (fun _ _ _ h => h) ⟨by rfl, ?_⟩ hS ?_
  rotate_left
  · intro wq hSw; go_simp; try rfl
  simp only [Act.put, List.setIfInBounds_toArray, List.set_cons_zero, List.set_cons_succ]
  refine wpAnyH_done (by kernel_rfl) ?_ _
  have TE := hide (HT2.out.below D3.out)
  have OAa := hide (GRow.below OA2.out D3.out)
  have OBa := hide (GRow.below OB.out D3.out)
  have HBa := hide (HB2.out.trans (D3.out.mono HB2.out.size))
  clear hS HT2 OA2 OB HB2
  have sa := NEW.out ga GA.out.1
  have sb := NEW.out gb (by have := GA.out; have := GB.out; omega)
  have lta := World.ownsRow.lt OAa.out ga rfl
  have ltb := World.ownsRow.lt OBa.out gb rfl
  have LT := hide (And.intro lta ltb)
  have ORD := hide GB.out.1
  have SS := hide (And.intro sa sb)
  clear sa sb lta ltb GA GB NEW K2 K3 K4
  go_wp2_with fail
  refine (keep_any lb B T ga ca LC _ TE.out OAa.out SS.out.1 (by omega) (by omega)).mono ?_
  rintro e w11 ⟨rfl, kp1⟩
  have F1 := hide (HBa.out.mono HBS.out |>.trans (kp1.bel TE.out LT.out.1.1))
  have OBb := hide (kp1.beside TE.out OBa.out SS.out.2 (by have := ORD.out; omega))
  obtain ⟨lb1, vL1, vM1, en1, tb1, ol1⟩ := kp1.ex
  have U1 := hide (show lb1 gb = 9 by rw [ol1 gb LT.out.2.2 (by have := ORD.out; omega)]; exact SS.out.2)
  have TB1 := hide tb1
  clear tb1 ol1 kp1 OAa OBa TE HBa SS
  go_wp2_with fail
  refine (keep_any lb1 B _ gb cb LC w11 TB1.out OBb.out U1.out (by omega) (by simp; omega)).mono ?_
  rintro e w12 ⟨rfl, kp1⟩
  have F2 := hide (F1.out.trans (kp1.bel TB1.out LT.out.2.1))
  obtain ⟨lb2, vL2, vM2, en2, tb1, -⟩ := kp1.ex
  have TB2 := hide tb1
  clear tb1 kp1 OBb TB1 U1 F1
  go_wp2_with fail
  go_ret
  exact ⟨rfl, lb2, _, TB2.out, HQ.out, rfl, F2.out, by simp⟩
end Go.Proofs.Ytokcocmenndlmaa
