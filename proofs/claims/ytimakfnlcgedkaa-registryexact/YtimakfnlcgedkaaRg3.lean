import Derived.Test.YtimakfnlcgedkaaRg2
namespace Go.Proofs.Ytimakfnlcgedkaa
open Go.RowKit Go.QK Go.Maps Go.QM Go.QR
set_option maxRecDepth 100000
set_option maxHeartbeats 4000000 in
theorem plan_go (b m g : Nat) (r : Reg) (c d : Int) (w : World) (h : PR w b m g r) (hn : inR c d = true) (hp : place r.nums c = none) : Calls Try.prog 11 #[ptr b, .int .i64 c, .int .i64 d] w (PlanPost w r c d) := by
  unfold PlanPost
  obtain ⟨h1, h2, h3, h4⟩ := inR_true hn
  have bb := (alloc_below w (.cells #[.int .i64 0, .int .i64 0] 30)).alloc (by simp) (.cells #[.int .i64 0, .int .i64 0] 30)
  have HP := hide (h.below bb)
  obtain ⟨k1, k1f⟩ := (h.below bb).box.get 1 _ rfl
  have HE := hide (show r.entry c = none by unfold Reg.entry; rw [hp]; rfl)
  have HN := hide hn
  have HPC := hide hp
  clear hn hp k1f bb
  have FP := hide h.lt
  clear h
  go_enter Try.func11, Try.ntmps11
  go_upto_region 6 with (at_lookup; refine wpList_look_cm HP.out.cm Try.underlying66 zeroT (x := c) (by unfold I64; omega) rfl _ _ rfl rfl rfl ?_; simp only [HE.out, Option.map_none, Option.getD_none, Option.isSome_none])
  refine named (P := Code.wp _ _ _ _) ?_
  intro w3 hw3
  have b3 : Below w.heap.size w w3 := by rw [hw3]; exact ((alloc_below _ _).alloc (by simp) _).alloc (by simp; omega) _
  have P3 := HP.out.below (w' := w3) (by rw [hw3]; exact alloc_below _ _)
  have Z1 : Cells w3 w.heap.size [.int .i64 0, .int .i64 0] := by rw [hw3]; exact ((Cells.new w #[.int .i64 0, .int .i64 0] 30).below (alloc_below _ _)).below (alloc_below _ _)
  have Z2 : Cells w3 (w.heap.size + 1) [.int .i64 0, .int .i64 0] := by
    have := (Cells.new (w.alloc (.cells #[.int .i64 0, .int .i64 0] 30)) #[.int .i64 0, .int .i64 0] 30).below (alloc_below _ (.cells #[.int .i64 0, .int .i64 0, .int .i64 0] 70))
    rw [hw3]
    simpa using this
  have s3 : w3.heap.size = w.heap.size + 3 := by rw [hw3]; simp
  have S3 := hide s3
  clear hw3 HP k1 HE s3
  have k1 := (P3.box.get 1 _ rfl).1
  have k2 := (P3.box.get 2 _ rfl).1
  refine wp_region_held_drew (S := fun wq => wq.cell? ⟨b, 1, none⟩ = some (.map (some m)) ∧ wq.cell? ⟨b, 2, none⟩ = some (.map (some g)) ∧ CM wq m (fun k => (r.entry k).map stV) r.nums ∧ CM wq g (fun k => (r.gslot k).map slotV) r.G) (by kernel_rfl) ⟨k1, k2, P3.cm, P3.gm⟩ (fun hS => ?_)
  refine take_at 0 (some 43) (v := ?_) rfl rfl (by kernel_rfl) (by kernel_rfl) (by kernel_rfl) (fun _ _ _ h => h) ⟨by rfl, ?_⟩ hS ?_
  rotate_left
  · intro wq hSw; go_simp; try rfl
  simp only [Act.put, List.setIfInBounds_toArray, List.set_cons_zero, List.set_cons_succ]
  refine take_at 1 (some 44) (v := ?_) rfl rfl (by kernel_rfl) (by kernel_rfl) (by kernel_rfl) (fun _ _ _ h => h) ⟨by rfl, ?_⟩ hS ?_
  rotate_left
  · intro wq hSw; go_simp; try rfl
  simp only [Act.put, List.setIfInBounds_toArray, List.set_cons_zero, List.set_cons_succ]
  refine take_at 2 (some 45) (v := ?_) rfl rfl (by kernel_rfl) (by kernel_rfl) (by kernel_rfl) (fun _ _ _ h => h) ⟨by rfl, ?_⟩ hS ?_
  rotate_left
  · intro wq hSw; go_simp; try rfl
  simp only [Act.put, List.setIfInBounds_toArray, List.set_cons_zero, List.set_cons_succ]
  refine take_at 3 (some 46) (v := ?_) rfl rfl (by kernel_rfl) (by kernel_rfl) (by kernel_rfl) (fun _ _ _ h => h) ⟨by rfl, ?_⟩ hS ?_
  rotate_left
  · intro wq hSw; obtain ⟨s1, s2, s3, s4⟩ := hSw; go_simp; try rfl
  simp only [Act.put, List.setIfInBounds_toArray, List.set_cons_zero, List.set_cons_succ]
  refine take_at 4 (some 47) (v := ?_) rfl rfl (by kernel_rfl) (by kernel_rfl) (by kernel_rfl) (fun _ _ _ h => h) ⟨by rfl, ?_⟩ hS ?_
  rotate_left
  · intro wq hSw; obtain ⟨s1, s2, s3, s4⟩ := hSw; have hr := fun ty => s3.len Try.underlying66 ty; go_simp; try rfl
  simp only [Act.put, List.setIfInBounds_toArray, List.set_cons_zero, List.set_cons_succ]
  refine take_at 5 (some 48) (v := ?_) rfl rfl (by kernel_rfl) (by kernel_rfl) (by kernel_rfl) (fun _ _ _ h => h) ⟨by rfl, ?_⟩ hS ?_
  rotate_left
  · intro wq hSw; go_simp; try rfl
  simp only [Act.put, List.setIfInBounds_toArray, List.set_cons_zero, List.set_cons_succ]
  refine take_at 6 (some 49) (v := ?_) rfl rfl (by kernel_rfl) (by kernel_rfl) (by kernel_rfl) (fun _ _ _ h => h) ⟨by rfl, ?_⟩ hS ?_
  rotate_left
  · intro wq hSw; go_simp; try rfl
  simp only [Act.put, List.setIfInBounds_toArray, List.set_cons_zero, List.set_cons_succ]
  refine take_at 7 (some 50) (v := ?_) rfl rfl (by kernel_rfl) (by kernel_rfl) (by kernel_rfl) (fun _ _ _ h => h) ⟨by rfl, ?_⟩ hS ?_
  rotate_left
  · intro wq hSw; go_simp; try rfl
  simp only [Act.put, List.setIfInBounds_toArray, List.set_cons_zero, List.set_cons_succ]
  refine take_at 8 (some 51) (v := ?_) rfl rfl (by kernel_rfl) (by kernel_rfl) (by kernel_rfl) (fun _ _ _ h => h) ⟨by rfl, ?_⟩ hS ?_
  rotate_left
  · intro wq hSw; obtain ⟨s1, s2, s3, s4⟩ := hSw; go_simp; try rfl
  simp only [Act.put, List.setIfInBounds_toArray, List.set_cons_zero, List.set_cons_succ]
  refine take_at 9 (some 52) (v := ?_) rfl rfl (by kernel_rfl) (by kernel_rfl) (by kernel_rfl) (fun _ _ _ h => h) ⟨by rfl, ?_⟩ hS ?_
  rotate_left
  · intro wq hSw; obtain ⟨s1, s2, s3, s4⟩ := hSw; have hr := fun ty => s4.len Try.underlying41 ty; go_simp; try rfl
  simp only [Act.put, List.setIfInBounds_toArray, List.set_cons_zero, List.set_cons_succ]
  refine take_at 10 (some 11) (v := ?_) rfl rfl (by kernel_rfl) (by kernel_rfl) (by kernel_rfl) (fun _ _ _ h => h) ⟨by rfl, ?_⟩ hS ?_
  rotate_left
  · intro wq hSw; go_simp; try rfl
  simp only [Act.put, List.setIfInBounds_toArray, List.set_cons_zero, List.set_cons_succ]
  refine take_at 11 (some 12) (v := ?_) rfl rfl (by kernel_rfl) (by kernel_rfl) (by kernel_rfl) (fun _ _ _ h => h) ⟨by rfl, ?_⟩ hS ?_
  rotate_left
  · intro wq hSw; go_simp; try rfl
  simp only [Act.put, List.setIfInBounds_toArray, List.set_cons_zero, List.set_cons_succ]
  refine wpAnyH_done (by kernel_rfl) ?_ _
  have P6 := hide (P3.below (Below.refl _ _).drew)
  have B6 := hide b3.drew
  have Y1 := hide Z1.drew
  have Y2 := hide Z2.drew
  have T6 := hide (show w3.drew.heap.size = w.heap.size + 3 from S3.out)
  clear P3 b3 Z1 Z2 S3 k1 k2 hS
  generalize w3.drew = w6 at *
  have e0 : r.nums.length = r.C.length := by simp [Reg.nums]
  rw [e0]
  obtain ⟨hl1, hl2⟩ := P6.out.ok.lens
  have hP := P6.out.ok.most
  have KC := fun w' => counterSlot_any r.C.length w' (by omega)
  have KR := fun w' => hasRoom_any r.P (r.C.length + 1) (r.gMore d) w' hP (by omega) (by unfold Reg.gMore; split <;> omega)
  have hrm : roomB r.P (r.C.length + 1) (r.gMore d) = r.room d := rfl
  have KG := fun w' => groupSlot_any r.P r.G.length w' hP (by omega)
  have hHS : ∃ HS, HS = high r.P (r.gAt d) := ⟨_, rfl⟩
  obtain ⟨HS, hHS⟩ := hHS
  obtain ⟨LW, hLW⟩ : ∃ LW, LW = low r.C.length := ⟨_, rfl⟩
  rw [← hLW] at KC
  have HHS := hide hHS
  have HLW := hide hLW
  clear hHS hLW
  obtain ⟨k0, _⟩ := P6.out.box.get 0 _ rfl
  obtain ⟨k2, _⟩ := P6.out.box.get 2 _ rfl
  clear e0
  have GP : (place r.G d).isSome = true ∨ place r.G d = none := by cases place r.G d <;> simp
  rcases GP with hp | hp
  · have eM : r.gMore d = r.G.length := by unfold Reg.gMore; rw [if_pos hp]
    obtain ⟨k, hk⟩ := Option.isSome_iff_exists.1 hp
    have HE := hide (show r.gslot d = some HS by unfold Reg.gslot; rw [HHS.out]; unfold Reg.gAt; rw [hk]; rfl)
    rw [eM] at KR hrm
    clear KG hk hp eM
    go_upto_region 8 with (at_lookup; refine wpList_look_cm P6.out.gm Try.underlying41 zeroS (x := d) (by unfold I64; omega) rfl _ _ rfl rfl rfl ?_; simp only [HE.out, Option.map_some, Option.getD_some, Option.isSome_some])
    refine named (P := Code.wp _ _ _ _) ?_
    intro w9 hw9
    have bb : Below w6.heap.size w6 w9 := by rw [hw9]; exact alloc_below _ _
    have B9 : Below w.heap.size w w9 := B6.out.trans (bb.mono B6.out.size)
    have P9 := P6.out.below bb
    have Z1 := Y1.out.below bb
    have Z2 := Y2.out.below bb
    have F9 : Cells w9 w6.heap.size [.int .i64 HS.1, .int .i64 HS.2] := by rw [hw9]; exact Cells.new _ _ _
    have S9 := hide (show w.heap.size + 3 ≤ w9.heap.size by have := bb.size; have := T6.out; omega)
    clear Y1 Y2 P6 B6 hw9 k0 k2 HE bb
    have hF := T6.out
    obtain ⟨A, hA⟩ : ∃ A, A = w.heap.size := ⟨_, rfl⟩
    obtain ⟨F, hFF⟩ : ∃ F, F = w6.heap.size := ⟨_, rfl⟩
    rw [← hFF] at F9 hF ⊢
    rw [← hA] at B9 Z1 Z2 S9 FP hF ⊢
    have HA := hide hA
    clear hFF T6 hA
    have hF2 : A + 3 ≤ F := by omega
    clear hF
    have k0 := (P9.box.get 0 _ rfl).1
    have Y1 := Z1
    have Y2 := Z2
    clear Z1 Z2
    cases hroom : r.room d
    · have EQ := hide (planE_full HN.out HPC.out hroom)
      rw [hrm, hroom] at KR
      clear hroom hrm
      go_wp2_with fail
      refine (KR _).mono ?_
      rintro e w9 ⟨rfl, rfl⟩
      clear KR KC
      obtain ⟨p0, q0⟩ := Y1.get 0 _ rfl
      obtain ⟨p1, q1⟩ := Y1.get 1 _ rfl
      obtain ⟨p2, q2⟩ := Y2.get 0 _ rfl
      obtain ⟨p3, q3⟩ := Y2.get 1 _ rfl
      go_wp2_with fail
      refine bodyPost_ret (v := .tuple #[slotV (0, 0), slotV (0, 0), .int .i64 6]) (by simp [results, Try.results11, go_sem, p0, p1, p2, p3]) rfl ⟨by rw [EQ.out.1, EQ.out.2.1, EQ.out.2.2], ?_⟩
      rw [← HA.out]
      exact B9.trans (Keep.below ((((Keep.refl (fun z => z = A ∨ z = A + 1) _).setCell (g := A) (j := 0) (fun _ => .inl rfl) (.int .i64 0)).setCell (g := A) (j := 1) (fun _ => .inl rfl) (.int .i64 0) |>.setCell (g := A + 1) (j := 0) (fun _ => .inr rfl) (.int .i64 0)).setCell (g := A + 1) (j := 1) (fun _ => .inr rfl) (.int .i64 0)) (by have := S9.out; omega) (fun z hz q => by omega))
    · have EQ := hide (planE_ok HN.out HPC.out hroom)
      rw [hrm, hroom] at KR
      clear hroom hrm
      go_upto_region 13 with (go_at_call 23; refine (KR _).mono ?_; rintro e w9 ⟨rfl, rfl⟩)
      refine wp_region_held_drew (S := fun wq => Cells wq F [.int .i64 HS.1, .int .i64 HS.2]) (by kernel_rfl) F9.drew (fun hS => ?_)
      have hB := hide B9.drew
      have h1 := hide Y1.drew
      have h2 := hide Y2.drew
      have hf := hide F9.drew
      clear B9 Y1 Y2 F9 P9
      obtain ⟨x9, hx9⟩ : ∃ x9, x9 = w9.drew := ⟨_, rfl⟩
      rw [← hx9] at hB h1 h2 hf hS ⊢
      have s9 : A + 3 ≤ x9.heap.size := by rw [hx9]; simpa using S9.out
      clear hx9 S9
      refine take_at 0 (some 83) (v := ?_) rfl rfl (by kernel_rfl) (by kernel_rfl) (by kernel_rfl) (fun _ _ _ h => h) ⟨by rfl, ?_⟩ hS ?_
      rotate_left
      · intro wq hSw; go_simp; try rfl
      simp only [Act.put, List.setIfInBounds_toArray, List.set_cons_zero, List.set_cons_succ]
      refine take_at 2 (some 85) (v := ?_) rfl rfl (by kernel_rfl) (by kernel_rfl) (by kernel_rfl) (fun _ _ _ h => h) ⟨by rfl, ?_⟩ hS ?_
      rotate_left
      · intro wq hSw; have z0 := (hSw.get 0 _ rfl).1; have z1 := (hSw.get 1 _ rfl).1; go_simp; try rfl
      simp only [Act.put, List.setIfInBounds_toArray, List.set_cons_zero, List.set_cons_succ]
      refine wpAnyH_ready (rs := [1]) (by kernel_rfl) (by simp) ?_
      refine AllReadyH.cons rfl (fun K hK => ?_) AllReadyH.nil
      go_simp
      go_wp2_with fail
      refine (KC _).mono ?_
      rintro e x10 ⟨rfl, hh⟩
      have B10 := hide (hB.out.trans (hh.mono (by omega)))
      have s10 : A + 3 ≤ x10.heap.size := Nat.le_trans s9 hh.size
      have U1 := hide (h1.out.below hh)
      have U2 := hide (h2.out.below hh)
      have U3 := hide (hf.out.below hh)
      clear hh hB h1 h2 hf KC
      obtain ⟨p0, q0⟩ := U1.out.get 0 _ rfl
      obtain ⟨p1, q1⟩ := U1.out.get 1 _ rfl
      obtain ⟨p2, q2⟩ := U2.out.get 0 _ rfl
      obtain ⟨p3, q3⟩ := U2.out.get 1 _ rfl
      go_wp2_with fail
      refine hK.out _ _ U3.out (fun hS => ?_)
      clear hK K
      (try simp only [Act.put, List.setIfInBounds_toArray, List.set_cons_zero, List.set_cons_succ])
      have K1 := ((Keep.refl (fun z => z = A) x10).setCell (g := A) (j := 0) (fun _ => rfl) (.int .i64 LW.1)).setCell (g := A) (j := 1) (fun _ => rfl) (.int .i64 LW.2)
      have K2 := (((Keep.refl (fun z => z = A ∨ z = A + 1) x10).setCell (g := A) (j := 0) (fun _ => .inl rfl) (.int .i64 LW.1)).setCell (g := A) (j := 1) (fun _ => .inl rfl) (.int .i64 LW.2) |>.setCell (g := A + 1) (j := 0) (fun _ => .inr rfl) (.int .i64 HS.1)).setCell (g := A + 1) (j := 1) (fun _ => .inr rfl) (.int .i64 HS.2)
      refine wpAnyH_ready (rs := [3]) (by kernel_rfl) (by simp) ?_
      refine AllReadyH.cons rfl (fun K hK => ?_) AllReadyH.nil
      go_simp
      go_wp2_with fail
      refine hK.out _ _ (U3.out.keep K1 (by omega)) (fun hS => ?_)
      clear hK K
      (try simp only [Act.put, List.setIfInBounds_toArray, List.set_cons_zero, List.set_cons_succ])
      refine wpAnyH_ready (rs := [4]) (by kernel_rfl) (by simp) ?_
      refine AllReadyH.cons rfl (fun K hK => ?_) AllReadyH.nil
      go_simp
      go_wp2_with fail
      refine hK.out _ _ (U3.out.keep K2 (by omega)) (fun hS => ?_)
      clear hK K
      (try simp only [Act.put, List.setIfInBounds_toArray, List.set_cons_zero, List.set_cons_succ])
      refine take_at 5 (some 8) (v := ?_) rfl rfl (by kernel_rfl) (by kernel_rfl) (by kernel_rfl) (fun _ _ _ h => h) ⟨by rfl, ?_⟩ hS ?_
      rotate_left
      · intro wq hSw; go_simp; try rfl
      simp only [Act.put, List.setIfInBounds_toArray, List.set_cons_zero, List.set_cons_succ]
      refine wpAnyH_done (by kernel_rfl) ?_ _
      go_wp2_with fail
      have u0 : A ≠ A + 1 := by omega
      refine bodyPost_ret (v := .tuple #[slotV LW, slotV HS, .int .i64 0]) (by simp [results, Try.results11, go_sem, p0, p1, p2, p3]) rfl ⟨by rw [EQ.out.1, EQ.out.2.1, EQ.out.2.2, HHS.out, HLW.out], ?_⟩
      rw [← HA.out]
      exact B10.out.trans (Keep.below K2 (by omega) (fun z hz q => by omega))
  · have eM : r.gMore d = r.G.length + 1 := by unfold Reg.gMore; rw [hp]; rfl
    have eA : r.gAt d = r.G.length := by unfold Reg.gAt; rw [hp]; rfl
    have HE := hide (show r.gslot d = none by unfold Reg.gslot; rw [hp]; rfl)
    rw [eM] at KR hrm
    have KG2 : ∀ w', Calls Try.prog 22 #[.int .i64 (r.P : Int), .int .i64 (r.G.length : Int)] w' fun e w'' => e = .returned (slotV HS) ∧ Below w'.heap.size w' w'' := by
      rw [HHS.out, eA]
      exact KG
    clear KG hp eM eA
    go_upto_region 9 with (at_lookup; refine wpList_look_cm P6.out.gm Try.underlying41 zeroS (x := d) (by unfold I64; omega) rfl _ _ rfl rfl rfl ?_; simp only [HE.out, Option.map_none, Option.getD_none, Option.isSome_none])
    refine named (P := Code.wp _ _ _ _) ?_
    intro w7 hw7
    have bb : Below w6.heap.size w6 w7 := by rw [hw7]; exact alloc_below _ _
    have B7 := hide (B6.out.trans (bb.mono B6.out.size))
    have P7 := hide (P6.out.below bb)
    have Z1 := hide (Y1.out.below bb)
    have Z2 := hide (Y2.out.below bb)
    have F7 := hide (show Cells w7 w6.heap.size [.int .i64 0, .int .i64 0] by rw [hw7]; exact Cells.new _ _ _)
    have S7 := hide (show w.heap.size + 3 ≤ w7.heap.size by have := bb.size; have := T6.out; omega)
    clear Y1 Y2 P6 B6 hw7 k0 k2 HE bb
    have k0 := (P7.out.box.get 0 _ rfl).1
    go_upto_region 10 with (go_at_call 22; refine (KG2 _).mono ?_; rintro e w8 ⟨rfl, hh⟩; have F8 := hide (F7.out.below hh); have B8 := hide (B7.out.trans (hh.mono B7.out.size)); have P8 := hide (P7.out.below hh); have Y1 := hide (Z1.out.below hh); have Y2 := hide (Z2.out.below hh); have S8 := hide (Nat.le_trans S7.out hh.size); clear hh F7 B7 P7 Z1 Z2 S7 k0; obtain ⟨p0, q0⟩ := F8.out.get 0 _ rfl; obtain ⟨p1, q1⟩ := F8.out.get 1 _ rfl)
    refine named (P := Code.wp _ _ _ _) ?_
    intro w9 hw9
    have hF := T6.out
    have K9 : Keep (fun z => z = w6.heap.size) w8 w9 := by rw [hw9]; exact (((Keep.refl (fun z => z = w6.heap.size) w8).setCell (g := w6.heap.size) (j := 0) (fun _ => rfl) (.int .i64 HS.1)).setCell (g := w6.heap.size) (j := 1) (fun _ => rfl) (.int .i64 HS.2))
    have F9 : Cells w9 w6.heap.size [.int .i64 HS.1, .int .i64 HS.2] := by
      rw [hw9]
      have := (F8.out.stored (j := 0) (by simp) (.int .i64 HS.1)).stored (j := 1) (by simp) (.int .i64 HS.2)
      simpa using this
    have B9 : Below w.heap.size w w9 := B8.out.trans (K9.below B8.out.size (fun z hz q => by omega))
    have P9 : PR w9 b m g r := P8.out.keep K9 (by have := FP.out.1; omega) (by have := FP.out.2.1; omega) (by have := FP.out.2.2; omega)
    have Z1 := Y1.out.keep K9 (by omega)
    have Z2 := Y2.out.keep K9 (by omega)
    have S9 := hide (Nat.le_trans S8.out K9.size)
    clear Y1 Y2 P8 B8 hw9 F8 S8 K9 p0 q0 p1 q1 KG2
    obtain ⟨A, hA⟩ : ∃ A, A = w.heap.size := ⟨_, rfl⟩
    obtain ⟨F, hFF⟩ : ∃ F, F = w6.heap.size := ⟨_, rfl⟩
    rw [← hFF] at F9 hF ⊢
    rw [← hA] at B9 Z1 Z2 S9 FP hF ⊢
    have HA := hide hA
    clear hFF T6 hA
    have hF2 : A + 3 ≤ F := by omega
    clear hF
    have k0 := (P9.box.get 0 _ rfl).1
    have Y1 := Z1
    have Y2 := Z2
    clear Z1 Z2
    cases hroom : r.room d
    · have EQ := hide (planE_full HN.out HPC.out hroom)
      rw [hrm, hroom] at KR
      clear hroom hrm
      go_wp2_with fail
      refine (KR _).mono ?_
      rintro e w9 ⟨rfl, rfl⟩
      clear KR KC
      obtain ⟨p0, q0⟩ := Y1.get 0 _ rfl
      obtain ⟨p1, q1⟩ := Y1.get 1 _ rfl
      obtain ⟨p2, q2⟩ := Y2.get 0 _ rfl
      obtain ⟨p3, q3⟩ := Y2.get 1 _ rfl
      go_wp2_with fail
      refine bodyPost_ret (v := .tuple #[slotV (0, 0), slotV (0, 0), .int .i64 6]) (by simp [results, Try.results11, go_sem, p0, p1, p2, p3]) rfl ⟨by rw [EQ.out.1, EQ.out.2.1, EQ.out.2.2], ?_⟩
      rw [← HA.out]
      exact B9.trans (Keep.below ((((Keep.refl (fun z => z = A ∨ z = A + 1) _).setCell (g := A) (j := 0) (fun _ => .inl rfl) (.int .i64 0)).setCell (g := A) (j := 1) (fun _ => .inl rfl) (.int .i64 0) |>.setCell (g := A + 1) (j := 0) (fun _ => .inr rfl) (.int .i64 0)).setCell (g := A + 1) (j := 1) (fun _ => .inr rfl) (.int .i64 0)) (by have := S9.out; omega) (fun z hz q => by omega))
    · have EQ := hide (planE_ok HN.out HPC.out hroom)
      rw [hrm, hroom] at KR
      clear hroom hrm
      go_upto_region 13 with (go_at_call 23; refine (KR _).mono ?_; rintro e w9 ⟨rfl, rfl⟩)
      refine wp_region_held_drew (S := fun wq => Cells wq F [.int .i64 HS.1, .int .i64 HS.2]) (by kernel_rfl) F9.drew (fun hS => ?_)
      have hB := hide B9.drew
      have h1 := hide Y1.drew
      have h2 := hide Y2.drew
      have hf := hide F9.drew
      clear B9 Y1 Y2 F9 P9
      obtain ⟨x9, hx9⟩ : ∃ x9, x9 = w9.drew := ⟨_, rfl⟩
      rw [← hx9] at hB h1 h2 hf hS ⊢
      have s9 : A + 3 ≤ x9.heap.size := by rw [hx9]; simpa using S9.out
      clear hx9 S9
      refine take_at 0 (some 83) (v := ?_) rfl rfl (by kernel_rfl) (by kernel_rfl) (by kernel_rfl) (fun _ _ _ h => h) ⟨by rfl, ?_⟩ hS ?_
      rotate_left
      · intro wq hSw; go_simp; try rfl
      simp only [Act.put, List.setIfInBounds_toArray, List.set_cons_zero, List.set_cons_succ]
      refine take_at 2 (some 85) (v := ?_) rfl rfl (by kernel_rfl) (by kernel_rfl) (by kernel_rfl) (fun _ _ _ h => h) ⟨by rfl, ?_⟩ hS ?_
      rotate_left
      · intro wq hSw; have z0 := (hSw.get 0 _ rfl).1; have z1 := (hSw.get 1 _ rfl).1; go_simp; try rfl
      simp only [Act.put, List.setIfInBounds_toArray, List.set_cons_zero, List.set_cons_succ]
      refine wpAnyH_ready (rs := [1]) (by kernel_rfl) (by simp) ?_
      refine AllReadyH.cons rfl (fun K hK => ?_) AllReadyH.nil
      go_simp
      go_wp2_with fail
      refine (KC _).mono ?_
      rintro e x10 ⟨rfl, hh⟩
      have B10 := hide (hB.out.trans (hh.mono (by omega)))
      have s10 : A + 3 ≤ x10.heap.size := Nat.le_trans s9 hh.size
      have U1 := hide (h1.out.below hh)
      have U2 := hide (h2.out.below hh)
      have U3 := hide (hf.out.below hh)
      clear hh hB h1 h2 hf KC
      obtain ⟨p0, q0⟩ := U1.out.get 0 _ rfl
      obtain ⟨p1, q1⟩ := U1.out.get 1 _ rfl
      obtain ⟨p2, q2⟩ := U2.out.get 0 _ rfl
      obtain ⟨p3, q3⟩ := U2.out.get 1 _ rfl
      go_wp2_with fail
      refine hK.out _ _ U3.out (fun hS => ?_)
      clear hK K
      (try simp only [Act.put, List.setIfInBounds_toArray, List.set_cons_zero, List.set_cons_succ])
      have K1 := ((Keep.refl (fun z => z = A) x10).setCell (g := A) (j := 0) (fun _ => rfl) (.int .i64 LW.1)).setCell (g := A) (j := 1) (fun _ => rfl) (.int .i64 LW.2)
      have K2 := (((Keep.refl (fun z => z = A ∨ z = A + 1) x10).setCell (g := A) (j := 0) (fun _ => .inl rfl) (.int .i64 LW.1)).setCell (g := A) (j := 1) (fun _ => .inl rfl) (.int .i64 LW.2) |>.setCell (g := A + 1) (j := 0) (fun _ => .inr rfl) (.int .i64 HS.1)).setCell (g := A + 1) (j := 1) (fun _ => .inr rfl) (.int .i64 HS.2)
      refine wpAnyH_ready (rs := [3]) (by kernel_rfl) (by simp) ?_
      refine AllReadyH.cons rfl (fun K hK => ?_) AllReadyH.nil
      go_simp
      go_wp2_with fail
      refine hK.out _ _ (U3.out.keep K1 (by omega)) (fun hS => ?_)
      clear hK K
      (try simp only [Act.put, List.setIfInBounds_toArray, List.set_cons_zero, List.set_cons_succ])
      refine wpAnyH_ready (rs := [4]) (by kernel_rfl) (by simp) ?_
      refine AllReadyH.cons rfl (fun K hK => ?_) AllReadyH.nil
      go_simp
      go_wp2_with fail
      refine hK.out _ _ (U3.out.keep K2 (by omega)) (fun hS => ?_)
      clear hK K
      (try simp only [Act.put, List.setIfInBounds_toArray, List.set_cons_zero, List.set_cons_succ])
      refine take_at 5 (some 8) (v := ?_) rfl rfl (by kernel_rfl) (by kernel_rfl) (by kernel_rfl) (fun _ _ _ h => h) ⟨by rfl, ?_⟩ hS ?_
      rotate_left
      · intro wq hSw; go_simp; try rfl
      simp only [Act.put, List.setIfInBounds_toArray, List.set_cons_zero, List.set_cons_succ]
      refine wpAnyH_done (by kernel_rfl) ?_ _
      go_wp2_with fail
      have u0 : A ≠ A + 1 := by omega
      refine bodyPost_ret (v := .tuple #[slotV LW, slotV HS, .int .i64 0]) (by simp [results, Try.results11, go_sem, p0, p1, p2, p3]) rfl ⟨by rw [EQ.out.1, EQ.out.2.1, EQ.out.2.2, HHS.out, HLW.out], ?_⟩
      rw [← HA.out]
      exact B10.out.trans (Keep.below K2 (by omega) (fun z hz q => by omega))
theorem plan_any (b m g : Nat) (r : Reg) (c d : Int) (w : World) (h : PR w b m g r) : Calls Try.prog 11 #[ptr b, .int .i64 c, .int .i64 d] w (PlanPost w r c d) := by
  cases hn : inR c d
  · exact plan_place b r c d w hn
  · cases hp : place r.nums c with
    | none => exact plan_go b m g r c d w h hn hp
    | some k => exact plan_twice b m g r c d w h hn (by rw [hp]; rfl)
end Go.Proofs.Ytimakfnlcgedkaa
