import Derived.Test.YtimakfnlcgedkaaRg23
namespace Go.Proofs.Ytimakfnlcgedkaa
open Go.RowKit Go.QK Go.Maps Go.QM Go.QR
set_option maxRecDepth 100000
def PutPost (lab : Nat → Nat) (w : World) (B : Nat) (T : Tab) (e : Ending) (w' : World) : Prop := e = .returned (.bool true) ∧ ∃ lab' T', Tb lab' w' B T' ∧ (∀ j, j < 2 → T'.rp j = T'.rq j) ∧ T'.t = T.t ∧ Below B w w' ∧ T'.ls.length ≤ T.ls.length ∧ Keep (fun z => lab z ≠ 9) w w' ∧ ∀ x, x < w.heap.size → lab' x = lab x
def TPost (d : Nat) (w : World) (B : Nat) (T : Tab) (e : Ending) (w' : World) : Prop := e = .returned (.bool true) ∧ ∃ lab' T', Tb lab' w' B T' ∧ (∀ j, j < 2 → T'.rp j = T'.rq j) ∧ T'.t = T.t ∧ Below B w w' ∧ T'.ls.length ≤ T.ls.length + d
theorem eqs {T : Tab} {i : Nat} {r : Reg} (he : ∀ j, j < 2 → T.rp j = T.rq j) : ∀ j, j < 2 → upd T.rp i r j = upd T.rq i r j := by
  intro j hj
  unfold upd
  split
  · rfl
  · exact he j hj
/-- A block that is none of the i-th registries'. -/
theorem far {lab : Nat → Nat} {w : World} {B : Nat} {T : Tab} (h : Tb lab w B T) {i : Nat} (hi : i < 2) {F : Nat} (hF : w.heap.size ≤ F) : (∀ z, (z = T.m i ∨ z = T.g i) → F ≠ z) ∧ (∀ z, (z = T.c i ∨ (T.vC i).ownBlock = some z ∨ (T.vG i).ownBlock = some z) → F ≠ z) := by
  have l := (h.pr i hi).lt
  have p := h.rr i hi
  refine ⟨fun z q => ?_, fun z q => ?_⟩
  · rcases q with q | q <;> (rw [q]; omega)
  · rcases q with q | q | q
    · have := p.box.1; omega
    · have := own_lt p.rc q; omega
    · have := own_lt p.rg q; omega
set_option maxHeartbeats 8000000 in
theorem puts_any (lab : Nat → Nat) (B : Nat) (T : Tab) (i : Nat) (c d : Int) (w : World) (h : Tb lab w B T) (hi : i < 2) (he : ∀ j, j < 2 → T.rp j = T.rq j) : Calls Try.prog 30 #[ptr T.t, .int .i64 (i : Int), .int .i64 c, .int .i64 d] w (PutPost lab w B T) := by
  unfold PutPost
  have ok := (h.pr i hi).ok
  have ei := he i hi
  have KR := fun w' (h : Tb lab w' B T) => rplan_any B (T.c i) (T.vC i) (T.vG i) (T.rq i) c d w' (h.rr i hi) (by rw [← ei]; exact ok)
  have KL := fun w' (h : Tb lab w' B T) => plans_any lab B T i c d w' h hi ei
  unfold PlanPost at KR
  obtain ⟨PW, hPW⟩ : ∃ x, x = (T.rq i).planW c d := ⟨_, rfl⟩
  obtain ⟨PS, hPS⟩ : ∃ x, x = (T.rq i).planS c d := ⟨_, rfl⟩
  obtain ⟨PE, hPE⟩ : ∃ x, x = (T.rq i).planE c d := ⟨_, rfl⟩
  rw [← hPW, ← hPS, ← hPE] at KR
  have KT := fun w' (h : Tb lab w' B T) => take_any (T.b i) (T.m i) (T.g i) (T.rp i) c d PW PS w' (h.pr i hi)
  have KU := fun w' (h : Tb lab w' B { T with rp := upd T.rp i ((T.rp i).take c d PW PS) }) => rtake_any B (T.c i) (T.vC i) (T.vG i) (T.rq i) c d PW PS w' (h.rr i hi) (by rw [← ei]; exact ok)
  unfold TakePost at KT
  unfold RTake at KU
  rw [← ei] at KU
  obtain ⟨TE, hTE⟩ : ∃ x, x = (T.rp i).takeE c d PW PS := ⟨_, rfl⟩
  obtain ⟨RN, hRN⟩ : ∃ x, x = (T.rp i).take c d PW PS := ⟨_, rfl⟩
  rw [← hTE, ← hRN] at KT
  rw [← hTE, ← hRN] at KU
  have HQ := hide (eqs (T := T) (i := i) (r := RN) he)
  have HBS := hide (show B ≤ w.heap.size by have := h.low.1; have := h.box.1; omega)
  obtain ⟨kp, -⟩ := h.cP hi
  obtain ⟨kr, -⟩ := h.cR hi
  have HT := hide h
  have HB := hide (Below.refl B w)
  have HW := hide (Below.refl w.heap.size w)
  have FR := hide (fun (F : Nat) (hF : w.heap.size ≤ F) => far h hi hF)
  clear h ok ei he hPW hPS hPE hTE hRN
  have hi2 : (i : Int) < 2 := by omega
  go_enter Try.func30, Try.ntmps30
  go_upto_region 2 with (go_at_call 36; refine (KR _ (HT.out)).mono ?_; rintro e v1 ⟨rfl, hh⟩; have SV := hide hh.size; have HWx := hide (HW.out.trans (hh.mono HW.out.size)); have HTx := hide (HT.out.below hh); have HBx := hide (HB.out.trans (hh.mono (Nat.le_trans HBS.out HB.out.size))); clear hh HT HB  KR kp kr)
  refine named (P := Code.wp _ _ _ _) ?_
  intro w1 hwn
  obtain ⟨N1, N2, bb, -⟩ := two_cells hwn
  have HT := hide (HTx.out.below bb)
  have HWn := hide (HWx.out.trans (bb.mono HWx.out.size))
  have HB := hide (HBx.out.trans (bb.mono (Nat.le_trans HBS.out HBx.out.size)))
  have A1 := hide N1
  have A2 := hide N2
  clear HWx HW hwn bb N1 N2 HTx HBx 
  obtain ⟨t1, ht⟩ : ∃ t, t = v1.heap.size := ⟨_, rfl⟩
  have LV := hide (show w.heap.size ≤ t1 by rw [ht]; exact SV.out)
  rw [← ht] at A1 A2 ⊢
  clear ht SV
  obtain ⟨kp, -⟩ := HT.out.cP hi
  obtain ⟨kr, -⟩ := HT.out.cR hi
  have LF := hide (show (∀ z, (z = T.m i ∨ z = T.g i) → t1 = z → False) ∧ (∀ z, (z = T.m i ∨ z = T.g i) → t1 + 1 = z → False) ∧ (∀ z, (z = T.c i ∨ (T.vC i).ownBlock = some z ∨ (T.vG i).ownBlock = some z) → t1 = z → False) ∧ (∀ z, (z = T.c i ∨ (T.vC i).ownBlock = some z ∨ (T.vG i).ownBlock = some z) → t1 + 1 = z → False) from ⟨(FR.out t1 LV.out).1, (FR.out (t1 + 1) (by have := LV.out; omega)).1, (FR.out t1 LV.out).2, (FR.out (t1 + 1) (by have := LV.out; omega)).2⟩)
  clear FR
  refine wp_region_held_drew (S := fun wq => wq.cell? ⟨T.t, i, none⟩ = some (ptr (T.b i)) ∧ wq.cell? ⟨T.t, 2 + i, none⟩ = some (ptr (T.c i)) ∧ wq.cell? ⟨t1, 0, none⟩ = some (.int .i64 PW.1) ∧ wq.cell? ⟨t1, 1, none⟩ = some (.int .i64 PW.2) ∧ wq.cell? ⟨t1 + 1, 0, none⟩ = some (.int .i64 PS.1) ∧ wq.cell? ⟨t1 + 1, 1, none⟩ = some (.int .i64 PS.2)) (by kernel_rfl) ⟨kp, kr, (A1.out.get 0 _ rfl).1, (A1.out.get 1 _ rfl).1, (A2.out.get 0 _ rfl).1, (A2.out.get 1 _ rfl).1⟩ (fun hS => ?_)
  have HTd := hide (HT.out.below (Below.refl _ _).drew)
  have HBd := hide HB.out.drew
  have HWd := hide HWn.out.drew
  have hAd := hide A1.out.drew
  have hCd := hide A2.out.drew
  clear HT HB HWn A1 A2 kp kr
  generalize w1.drew = xd at *
  refine take_at 0 (some 25) (v := ?_) rfl rfl (by kernel_rfl) (by kernel_rfl) (by kernel_rfl) (fun _ _ _ h => h) ⟨by rfl, ?_⟩ hS ?_
  rotate_left
  · intro wq hSw; go_simp; try rfl
  simp only [Act.put, List.setIfInBounds_toArray, List.set_cons_zero, List.set_cons_succ]
  refine take_at 1 (some 26) (v := ?_) rfl rfl (by kernel_rfl) (by kernel_rfl) (by kernel_rfl) (fun _ _ _ h => h) ⟨by rfl, ?_⟩ hS ?_
  rotate_left
  · intro wq hSw; go_simp; try rfl
  simp only [Act.put, List.setIfInBounds_toArray, List.set_cons_zero, List.set_cons_succ]
  refine take_at 2 (some 27) (v := ?_) rfl rfl (by kernel_rfl) (by kernel_rfl) (by kernel_rfl) (fun _ _ _ h => h) ⟨by rfl, ?_⟩ hS ?_
  rotate_left
  · intro wq hSw; go_simp; try rfl
  simp only [Act.put, List.setIfInBounds_toArray, List.set_cons_zero, List.set_cons_succ]
  refine take_at 3 (some 28) (v := ?_) rfl rfl (by kernel_rfl) (by kernel_rfl) (by kernel_rfl) (fun _ _ _ h => h) ⟨by rfl, ?_⟩ hS ?_
  rotate_left
  · intro wq hSw; go_simp; try rfl
  simp only [Act.put, List.setIfInBounds_toArray, List.set_cons_zero, List.set_cons_succ]
  refine wpAnyH_ready (rs := [4]) (by kernel_rfl) (by simp) ?_
  refine AllReadyH.cons rfl (fun K hK => ?_) AllReadyH.nil
  go_simp
  go_wp2_with fail
  refine (KL _ HTd.out).mono ?_
  rintro e x0 ⟨rfl, hh⟩
  have HT0 := hide (HTd.out.below hh)
  have HB0 := hide (HBd.out.trans (hh.mono (Nat.le_trans HBS.out HBd.out.size)))
  have HW0 := hide (Keep.of_below (S := fun z => lab z ≠ 9) (HWd.out.trans (hh.mono HWd.out.size)))
  have hA0 := hide (hAd.out.below hh)
  have hC0 := hide (hCd.out.below hh)
  have SZ0 := hide hh.size
  have hS0 : (fun wq => wq.cell? ⟨T.t, i, none⟩ = some (ptr (T.b i)) ∧ wq.cell? ⟨T.t, 2 + i, none⟩ = some (ptr (T.c i)) ∧ wq.cell? ⟨t1, 0, none⟩ = some (.int .i64 PW.1) ∧ wq.cell? ⟨t1, 1, none⟩ = some (.int .i64 PW.2) ∧ wq.cell? ⟨t1 + 1, 0, none⟩ = some (.int .i64 PS.1) ∧ wq.cell? ⟨t1 + 1, 1, none⟩ = some (.int .i64 PS.2)) x0 := ⟨(HT0.out.cP hi).1, (HT0.out.cR hi).1, (hA0.out.get 0 _ rfl).1, (hA0.out.get 1 _ rfl).1, (hC0.out.get 0 _ rfl).1, (hC0.out.get 1 _ rfl).1⟩
  clear hh HTd HBd HWd hAd hCd KL
  go_wp2_with fail
  refine hK.out _ _ hS0 (fun hS => ?_)
  clear hK K hS0
  (try simp only [Act.put, List.setIfInBounds_toArray, List.set_cons_zero, List.set_cons_succ])
  refine take_at 5 (some 30) (v := ?_) rfl rfl (by kernel_rfl) (by kernel_rfl) (by kernel_rfl) (fun _ _ _ h => h) ⟨by rfl, ?_⟩ hS ?_
  rotate_left
  · intro wq hSw; go_simp; try rfl
  simp only [Act.put, List.setIfInBounds_toArray, List.set_cons_zero, List.set_cons_succ]
  refine take_at 6 (some 31) (v := ?_) rfl rfl (by kernel_rfl) (by kernel_rfl) (by kernel_rfl) (fun _ _ _ h => h) ⟨by rfl, ?_⟩ hS ?_
  rotate_left
  · intro wq hSw; go_simp; try rfl
  simp only [Act.put, List.setIfInBounds_toArray, List.set_cons_zero, List.set_cons_succ]
  refine take_at 7 (some 32) (v := ?_) rfl rfl (by kernel_rfl) (by kernel_rfl) (by kernel_rfl) (fun _ _ _ h => h) ⟨by rfl, ?_⟩ hS ?_
  rotate_left
  · intro wq hSw; go_simp; try rfl
  simp only [Act.put, List.setIfInBounds_toArray, List.set_cons_zero, List.set_cons_succ]
  refine take_at 8 (some 33) (v := ?_) rfl rfl (by kernel_rfl) (by kernel_rfl) (by kernel_rfl) (fun _ _ _ h => h) ⟨by rfl, ?_⟩ hS ?_
  rotate_left
  · intro wq hSw; go_simp; try rfl
  simp only [Act.put, List.setIfInBounds_toArray, List.set_cons_zero, List.set_cons_succ]
  refine take_at 9 (some 34) (v := ?_) rfl rfl (by kernel_rfl) (by kernel_rfl) (by kernel_rfl) (fun _ _ _ h => h) ⟨by rfl, ?_⟩ hS ?_
  rotate_left
  · intro wq hSw; go_simp; try rfl
  simp only [Act.put, List.setIfInBounds_toArray, List.set_cons_zero, List.set_cons_succ]
  refine take_at 10 (some 35) (v := ?_) rfl rfl (by kernel_rfl) (by kernel_rfl) (by kernel_rfl) (fun _ _ _ h => h) ⟨by rfl, ?_⟩ hS ?_
  rotate_left
  · intro wq hSw; go_simp; try rfl
  simp only [Act.put, List.setIfInBounds_toArray, List.set_cons_zero, List.set_cons_succ]
  refine take_at 11 (some 36) (v := ?_) rfl rfl (by kernel_rfl) (by kernel_rfl) (by kernel_rfl) (fun _ _ _ h => h) ⟨by rfl, ?_⟩ hS ?_
  rotate_left
  · intro wq hSw; obtain ⟨s0, s1, s2, s3, s4, s5⟩ := hSw; go_simp; try rfl
  simp only [Act.put, List.setIfInBounds_toArray, List.set_cons_zero, List.set_cons_succ]
  refine take_at 12 (some 37) (v := ?_) rfl rfl (by kernel_rfl) (by kernel_rfl) (by kernel_rfl) (fun _ _ _ h => h) ⟨by rfl, ?_⟩ hS ?_
  rotate_left
  · intro wq hSw; go_simp; try rfl
  simp only [Act.put, List.setIfInBounds_toArray, List.set_cons_zero, List.set_cons_succ]
  refine take_at 13 (some 38) (v := ?_) rfl rfl (by kernel_rfl) (by kernel_rfl) (by kernel_rfl) (fun _ _ _ h => h) ⟨by rfl, ?_⟩ hS ?_
  rotate_left
  · intro wq hSw; go_simp; try rfl
  simp only [Act.put, List.setIfInBounds_toArray, List.set_cons_zero, List.set_cons_succ]
  refine take_at 14 (some 39) (v := ?_) rfl rfl (by kernel_rfl) (by kernel_rfl) (by kernel_rfl) (fun _ _ _ h => h) ⟨by rfl, ?_⟩ hS ?_
  rotate_left
  · intro wq hSw; obtain ⟨s0, s1, s2, s3, s4, s5⟩ := hSw; go_simp; try rfl
  simp only [Act.put, List.setIfInBounds_toArray, List.set_cons_zero, List.set_cons_succ]
  refine take_at 15 (some 40) (v := ?_) rfl rfl (by kernel_rfl) (by kernel_rfl) (by kernel_rfl) (fun _ _ _ h => h) ⟨by rfl, ?_⟩ hS ?_
  rotate_left
  · intro wq hSw; obtain ⟨s0, s1, s2, s3, s4, s5⟩ := hSw; go_simp; try rfl
  simp only [Act.put, List.setIfInBounds_toArray, List.set_cons_zero, List.set_cons_succ]
  refine take_at 18 (some 43) (v := ?_) rfl rfl (by kernel_rfl) (by kernel_rfl) (by kernel_rfl) (fun _ _ _ h => h) ⟨by rfl, ?_⟩ hS ?_
  rotate_left
  · intro wq hSw; go_simp; try rfl
  simp only [Act.put, List.setIfInBounds_toArray, List.set_cons_zero, List.set_cons_succ]
  refine take_at 19 (some 44) (v := ?_) rfl rfl (by kernel_rfl) (by kernel_rfl) (by kernel_rfl) (fun _ _ _ h => h) ⟨by rfl, ?_⟩ hS ?_
  rotate_left
  · intro wq hSw; go_simp; try rfl
  simp only [Act.put, List.setIfInBounds_toArray, List.set_cons_zero, List.set_cons_succ]
  refine take_at 20 (some 45) (v := ?_) rfl rfl (by kernel_rfl) (by kernel_rfl) (by kernel_rfl) (fun _ _ _ h => h) ⟨by rfl, ?_⟩ hS ?_
  rotate_left
  · intro wq hSw; go_simp; try rfl
  simp only [Act.put, List.setIfInBounds_toArray, List.set_cons_zero, List.set_cons_succ]
  refine take_at 21 (some 46) (v := ?_) rfl rfl (by kernel_rfl) (by kernel_rfl) (by kernel_rfl) (fun _ _ _ h => h) ⟨by rfl, ?_⟩ hS ?_
  rotate_left
  · intro wq hSw; go_simp; try rfl
  simp only [Act.put, List.setIfInBounds_toArray, List.set_cons_zero, List.set_cons_succ]
  refine take_at 22 (some 47) (v := ?_) rfl rfl (by kernel_rfl) (by kernel_rfl) (by kernel_rfl) (fun _ _ _ h => h) ⟨by rfl, ?_⟩ hS ?_
  rotate_left
  · intro wq hSw; go_simp; try rfl
  simp only [Act.put, List.setIfInBounds_toArray, List.set_cons_zero, List.set_cons_succ]
  refine take_at 23 (some 48) (v := ?_) rfl rfl (by kernel_rfl) (by kernel_rfl) (by kernel_rfl) (fun _ _ _ h => h) ⟨by rfl, ?_⟩ hS ?_
  rotate_left
  · intro wq hSw; obtain ⟨s0, s1, s2, s3, s4, s5⟩ := hSw; go_simp; try rfl
  simp only [Act.put, List.setIfInBounds_toArray, List.set_cons_zero, List.set_cons_succ]
  refine take_at 24 (some 49) (v := ?_) rfl rfl (by kernel_rfl) (by kernel_rfl) (by kernel_rfl) (fun _ _ _ h => h) ⟨by rfl, ?_⟩ hS ?_
  rotate_left
  · intro wq hSw; go_simp; try rfl
  simp only [Act.put, List.setIfInBounds_toArray, List.set_cons_zero, List.set_cons_succ]
  refine take_at 25 (some 50) (v := ?_) rfl rfl (by kernel_rfl) (by kernel_rfl) (by kernel_rfl) (fun _ _ _ h => h) ⟨by rfl, ?_⟩ hS ?_
  rotate_left
  · intro wq hSw; go_simp; try rfl
  simp only [Act.put, List.setIfInBounds_toArray, List.set_cons_zero, List.set_cons_succ]
  refine take_at 26 (some 51) (v := ?_) rfl rfl (by kernel_rfl) (by kernel_rfl) (by kernel_rfl) (fun _ _ _ h => h) ⟨by rfl, ?_⟩ hS ?_
  rotate_left
  · intro wq hSw; obtain ⟨s0, s1, s2, s3, s4, s5⟩ := hSw; go_simp; try rfl
  simp only [Act.put, List.setIfInBounds_toArray, List.set_cons_zero, List.set_cons_succ]
  refine take_at 27 (some 52) (v := ?_) rfl rfl (by kernel_rfl) (by kernel_rfl) (by kernel_rfl) (fun _ _ _ h => h) ⟨by rfl, ?_⟩ hS ?_
  rotate_left
  · intro wq hSw; obtain ⟨s0, s1, s2, s3, s4, s5⟩ := hSw; go_simp; try rfl
  simp only [Act.put, List.setIfInBounds_toArray, List.set_cons_zero, List.set_cons_succ]
  refine wpAnyH_ready (rs := [16]) (by kernel_rfl) (by simp) ?_
  refine AllReadyH.cons rfl (fun K hK => ?_) AllReadyH.nil
  go_simp
  go_wp2_with fail
  refine (KT _ HT0.out).mono ?_
  rintro e x1 ⟨rfl, hpq, kp1⟩
  have HT1 := hide (HT0.out.took hi hpq kp1)
  have hA1 := hide (hA0.out.keep kp1 (fun q => LF.out.1 _ q rfl))
  have hC1 := hide (hC0.out.keep kp1 (fun q => LF.out.2.1 _ q rfl))
  have hS1 : (fun wq => wq.cell? ⟨T.t, i, none⟩ = some (ptr (T.b i)) ∧ wq.cell? ⟨T.t, 2 + i, none⟩ = some (ptr (T.c i)) ∧ wq.cell? ⟨t1, 0, none⟩ = some (.int .i64 PW.1) ∧ wq.cell? ⟨t1, 1, none⟩ = some (.int .i64 PW.2) ∧ wq.cell? ⟨t1 + 1, 0, none⟩ = some (.int .i64 PS.1) ∧ wq.cell? ⟨t1 + 1, 1, none⟩ = some (.int .i64 PS.2)) x1 := ⟨(HT1.out.cP hi).1, (HT1.out.cR hi).1, (hA1.out.get 0 _ rfl).1, (hA1.out.get 1 _ rfl).1, (hC1.out.get 0 _ rfl).1, (hC1.out.get 1 _ rfl).1⟩
  have HB1 := hide (HB0.out.trans (kp1.below (Nat.le_trans HBS.out HB0.out.size) (fun z hz q => by have := HT0.out.low.2 i hi; rcases q with q | q <;> (rw [q] at hz; omega))))
  have HW1 := hide (HW0.out.trans kp1 (fun j _ q => by have := HT0.out.l2 i hi; rcases q with q | q <;> (rw [q]; omega)))
  have SZ1 := hide (Nat.le_trans SZ0.out kp1.size)
  clear hpq kp1 HT0 hA0 hC0 HB0 HW0 SZ0
  go_wp2_with fail
  refine hK.out _ _ hS1 (fun hS => ?_)
  clear hK K
  (try simp only [Act.put, List.setIfInBounds_toArray, List.set_cons_zero, List.set_cons_succ])
  refine wpAnyH_ready (rs := [17]) (by kernel_rfl) (by simp) ?_
  refine AllReadyH.cons rfl (fun K hK => ?_) AllReadyH.nil
  go_simp
  go_wp2_with fail
  refine (num_eq _ _).mono ?_
  rintro e wz ⟨rfl, rfl⟩
  go_wp2_with fail
  refine hK.out _ _ hS (fun hS => ?_)
  clear hK K
  (try simp only [Act.put, List.setIfInBounds_toArray, List.set_cons_zero, List.set_cons_succ])
  refine wpAnyH_ready (rs := [28]) (by kernel_rfl) (by simp) ?_
  refine AllReadyH.cons rfl (fun K hK => ?_) AllReadyH.nil
  go_simp
  go_wp2_with fail
  refine (KU _ HT1.out).mono ?_
  rintro e x2 ⟨rfl, vC2, vG2, hpq, sm1, sm2, kp2⟩
  have HT2 := hide (HT1.out.rtook hi hpq sm1 sm2 kp2)
  have hA2 := hide (hA1.out.keep kp2 (fun q => LF.out.2.2.1 _ q rfl))
  have hC2 := hide (hC1.out.keep kp2 (fun q => LF.out.2.2.2 _ q rfl))
  have hS2 : (fun wq => wq.cell? ⟨T.t, i, none⟩ = some (ptr (T.b i)) ∧ wq.cell? ⟨T.t, 2 + i, none⟩ = some (ptr (T.c i)) ∧ wq.cell? ⟨t1, 0, none⟩ = some (.int .i64 PW.1) ∧ wq.cell? ⟨t1, 1, none⟩ = some (.int .i64 PW.2) ∧ wq.cell? ⟨t1 + 1, 0, none⟩ = some (.int .i64 PS.1) ∧ wq.cell? ⟨t1 + 1, 1, none⟩ = some (.int .i64 PS.2)) x2 := ⟨(HT2.out.cP hi).1, (HT2.out.cR hi).1, (hA2.out.get 0 _ rfl).1, (hA2.out.get 1 _ rfl).1, (hC2.out.get 0 _ rfl).1, (hC2.out.get 1 _ rfl).1⟩
  have HB2 := hide (HB1.out.trans (kp2.below (Nat.le_trans HBS.out HB1.out.size) (fun z hz q => by have this : RR x1 B (T.c i) (T.vC i) (T.vG i) (T.rq i) := HT1.out.rr i hi; rcases q with q | q | q; (have := this.low; omega); (have := (World.ownsRow.lt this.rc z q).1; omega); (have := (World.ownsRow.lt this.rg z q).1; omega))))
  have HW2 := hide (HW1.out.trans kp2 (fun j _ q => by have l4 : lab (T.c i) = 4 + i ∧ (∀ x, (T.vC i).ownBlock = some x → lab x = 4 + i) ∧ (∀ x, (T.vG i).ownBlock = some x → lab x = 4 + i) := HT1.out.l4 i hi; rcases q with q | q | q; (rw [q, l4.1]; omega); (rw [l4.2.1 j q]; omega); (rw [l4.2.2 j q]; omega)))
  have OL := hide (show ∀ x, x < w.heap.size → ext lab x1.heap.size (4 + i) x = lab x from fun x hx => ext_old (Nat.lt_of_lt_of_le hx HW1.out.size))
  clear hpq sm1 sm2 kp2 hA1 hC1 HB1 HW1 SZ1
  go_wp2_with fail
  refine hK.out _ _ hS2 (fun hS => ?_)
  clear hK K
  (try simp only [Act.put, List.setIfInBounds_toArray, List.set_cons_zero, List.set_cons_succ])
  refine take_at 29 (some 54) (v := ?_) rfl rfl (by kernel_rfl) (by kernel_rfl) (by kernel_rfl) (fun _ _ _ h => h) ⟨by rfl, ?_⟩ hS ?_
  rotate_left
  · intro wq hSw; go_simp; try rfl
  simp only [Act.put, List.setIfInBounds_toArray, List.set_cons_zero, List.set_cons_succ]
  refine take_at 30 (some 55) (v := ?_) rfl rfl (by kernel_rfl) (by kernel_rfl) (by kernel_rfl) (fun _ _ _ h => h) ⟨by rfl, ?_⟩ hS ?_
  rotate_left
  · intro wq hSw; go_simp; try rfl
  simp only [Act.put, List.setIfInBounds_toArray, List.set_cons_zero, List.set_cons_succ]
  refine take_at 31 (some 8) (v := ?_) rfl rfl (by kernel_rfl) (by kernel_rfl) (by kernel_rfl) (fun _ _ _ h => h) ⟨by rfl, ?_⟩ hS ?_
  rotate_left
  · intro wq hSw; go_simp; try rfl
  simp only [Act.put, List.setIfInBounds_toArray, List.set_cons_zero, List.set_cons_succ]
  refine wpAnyH_done (by kernel_rfl) ?_ _
  go_wp2_with fail
  go_ret
  exact ⟨rfl, _, _, HT2.out, HQ.out, rfl, HB2.out, Nat.le_refl _, HW2.out, OL.out⟩
theorem PutPost.t {lab : Nat → Nat} {w : World} {B : Nat} {T : Tab} {e : Ending} {w' : World} (h : PutPost lab w B T e w') : TPost 0 w B T e w' := by
  obtain ⟨h1, lab', T', h2, h3, h4, h5, h6, -, -⟩ := h
  exact ⟨h1, lab', T', h2, h3, h4, h5, h6⟩
end Go.Proofs.Ytimakfnlcgedkaa
