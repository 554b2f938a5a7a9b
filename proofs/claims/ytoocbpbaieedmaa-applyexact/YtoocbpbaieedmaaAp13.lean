import Derived.Test.YtoocbpbaieedmaaAp12
namespace Go.Proofs.Ytoocbpbaieedmaa
open Go.RowKit Go.QK Quota
set_option maxRecDepth 100000
abbrev r1 : Rc := ⟨4, 2, 0, 0, 0, 0, 3, 0, 0, ⟨7, 2, 0, 10, 5⟩, .slice none 0 0, .slice none 0 0, .int .i64 0⟩
abbrev r2 : Rc := ⟨6, 3, 1, 5, 0, 0, 3, 0, 3, ⟨7, 0, 0, 0, 0⟩, .slice none 0 0, .slice none 0 0, .int .i64 0⟩
abbrev q1 : Pg := ⟨0, 4, [⟨7, 2, 0, 10, 5⟩], []⟩
abbrev q2 : Pg := ⟨3, 4, [], [⟨2, 5⟩]⟩
abbrev q3 : Pg := ⟨0, 6, [⟨7, 2, 0, 10, 8⟩], []⟩
abbrev t0 : At := ⟨none, 0, none, 0⟩
theorem r1_fit : r1.Fit := ⟨by unfold I64; decide, by unfold I64; decide⟩
theorem r2_fit : r2.Fit := ⟨by unfold I64; decide, by unfold I64; decide⟩
theorem q1_fit : q1.Fit := ⟨by intro x hx; simp at hx; subst hx; unfold I64; decide, nofun, by decide, by decide⟩
theorem e_fit (n : Int) : (⟨n, 0, [], []⟩ : Pg).Fit := ⟨nofun, nofun, by simp, by simp⟩
theorem e_in (w : World) (n : Int) : PIn w ⟨n, 0, [], []⟩ t0 := ⟨.inl rfl, .inl rfl, fun _ => ⟨rfl, rfl⟩, fun _ => ⟨rfl, rfl⟩, Nat.le_refl _, Nat.le_refl _⟩
theorem aw1 : didB ⟨0, 0, [], []⟩ r1 = true ∧ doE ⟨0, 0, [], []⟩ r1 = 0 ∧ doP ⟨0, 0, [], []⟩ r1 = q1 := ⟨rfl, rfl, rfl⟩
theorem aw2 : didB ⟨3, 0, [], []⟩ r1 = true ∧ doE ⟨3, 0, [], []⟩ r1 = 0 ∧ doP ⟨3, 0, [], []⟩ r1 = q2 := ⟨rfl, rfl, rfl⟩
theorem aw3 : didB q1 r2 = true ∧ doE q1 r2 = 0 ∧ doP q1 r2 = q3 := ⟨rfl, rfl, rfl⟩
theorem aw4 : didB q1 r1 = false ∧ doE q1 r1 = 0 := ⟨rfl, rfl⟩
theorem aw5 : didB ⟨1, 0, [], []⟩ r1 = false ∧ doE ⟨1, 0, [], []⟩ r1 = 82 := ⟨rfl, rfl⟩
theorem aw6 : pagesL r2 = [0, 3] := rfl
/-- Do, as it is met where the page is known. -/
theorem do_lit (p : Pg) (t : At) (r : Rc) (w : World) (h : PIn w p t) (hf : p.Fit) (hr : r.Fit) (Y : Bool) (E : Int) (P : Pg) (h1 : didB p r = Y) (h2 : doE p r = E) (h3 : doP p r = P) : Calls Try.prog 14 #[pgV p t, recV r] w fun e w' => ∃ u, e = .returned (.tuple #[pgV P u, .bool Y, .int .i64 E]) ∧ PIn w' P u ∧ Below w.heap.size w w' := by
  subst h1 h2 h3
  refine (do_any p t r w h hf hr).mono ?_
  rintro e w' ⟨v, rfl, h4, h5⟩
  obtain ⟨u, rfl, h6⟩ := h4.in_
  exact ⟨u, rfl, h6, h5⟩
structure AwS (w wr : World) (cb pb qb : Nat) (t u : At) : Prop where
  be : Below w.heap.size w wr
  rc : RBox wr cb 38 (recA r1)
  pc : Cells wr pb [.int .i64 0, .int .i64 4, .slice t.a 1 t.c, .slice t.b 0 t.d]
  qc : Cells wr qb [.int .i64 3, .int .i64 4, .slice u.a 0 u.c, .slice u.b 1 u.d]
  pi : PIn wr q1 t
  qi : PIn wr q2 u
theorem AwS.below {w wr wz : World} {cb pb qb : Nat} {t u : At} (h : AwS w wr cb pb qb t u) (hb : Below wr.heap.size wr wz) : AwS w wz cb pb qb t u := ⟨h.be.trans (hb.mono h.be.size), h.rc.below hb, h.pc.below hb, h.qc.below hb, h.pi.below hb, h.qi.below hb⟩
theorem q1_in (w : World) : PIn (w.alloc (.cells (ctrC ⟨7, 2, 0, 10, 5⟩).toArray 32)) q1 ⟨some ⟨w.heap.size, 0, none⟩, 1, none, 0⟩ := ⟨lies_new w (ctrC ⟨7, 2, 0, 10, 5⟩) 32, .inl rfl, nofun, fun _ => ⟨rfl, rfl⟩, Nat.le_refl _, Nat.le_refl _⟩
theorem q2_in (w : World) : PIn (w.alloc (.cells (grpC ⟨2, 5⟩).toArray 69)) q2 ⟨none, 0, some ⟨w.heap.size, 0, none⟩, 1⟩ := ⟨.inl rfl, lies_new w (grpC ⟨2, 5⟩) 69, fun _ => ⟨rfl, rfl⟩, nofun, Nat.le_refl _, Nat.le_refl _⟩
set_option maxHeartbeats 16000000 in
theorem awake_any (w : World) : Calls Try.prog 8 #[] w fun e w' => e = .returned (.bool true) ∧ Below w.heap.size w w' := by
  have K1 := fun w' => do_lit ⟨0, 0, [], []⟩ t0 r1 w' (e_in w' 0) (e_fit 0) r1_fit true 0 q1 aw1.1 aw1.2.1 aw1.2.2
  have K2 := fun w' => do_lit ⟨3, 0, [], []⟩ t0 r1 w' (e_in w' 3) (e_fit 3) r1_fit true 0 q2 aw2.1 aw2.2.1 aw2.2.2
  have K5 := fun w' => do_lit ⟨1, 0, [], []⟩ t0 r1 w' (e_in w' 1) (e_fit 1) r1_fit false 82 _ aw5.1 aw5.2 rfl
  have KB := fun t w' => back_any q1 t w'
  have KB2 := fun t w' => back_any q2 t w'
  have KS1 := fun w' t u h1 h2 => same_true q1 t u w' h1 h2 (by decide) (by decide)
  have KS2 := fun w' t u h1 h2 => same_true q2 t u w' h1 h2 (by decide) (by decide)
  simp only [pgV, pgA, List.length_cons, List.length_nil, Nat.zero_add] at K1 K2 K5 KB KB2 KS1 KS2
  go_enter Try.func8, Try.ntmps8
  go_upto_region 2 with (refine wpList_store38 (RBox.new _ #[.int .i64 0, .int .i64 0, .int .i64 0, .int .i64 0, .int .i64 0, .int .i64 0, .int .i64 0, .int .i64 0, .int .i64 0, .int .i64 0, .int .i64 0, .int .i64 0, .int .i64 0, .int .i64 0, .slice none 0 0, .slice none 0 0, .int .i64 0] 38) rfl rfl rfl rfl rfl ?_; intro w1 hx hk)
  have X1 := hide (show RBox w1 w.heap.size 38 (recA r1) from hx)
  have H1 := hide ((alloc_below w _).trans (hk.below (by simp) (fun k hk q => by omega)))
  obtain ⟨cb, hcb⟩ : ∃ cb, cb = w.heap.size := ⟨_, rfl⟩
  rw [← hcb]
  rw [← hcb] at X1
  clear hx hk hcb
  go_upto_region 3 with (first | refine wpList_load38 X1.out rfl rfl ?_ | (go_at_call 14; refine (K1 _).mono ?_; rintro e w2 ⟨t, rfl, i2, h2⟩))
  refine named (P := Code.wp _ _ _ _) ?_
  intro w3 hw3
  obtain ⟨pb, hpb⟩ : ∃ pb, pb = w2.heap.size := ⟨_, rfl⟩
  have al : Below w2.heap.size w2 w3 := by rw [hw3]; exact alloc_below _ _
  have b13 : Below w1.heap.size w1 w3 := h2.trans (al.mono h2.size)
  have X3 := hide (X1.out.below b13)
  have P3 := hide (show Cells w3 pb [.int .i64 0, .int .i64 4, .slice t.a 1 t.c, .slice t.b 0 t.d] by rw [hw3, hpb]; exact Cells.new _ _ _)
  have I3 := hide (i2.below al)
  have B3 := hide (H1.out.trans (b13.mono H1.out.size))
  rw [← hpb]
  clear hw3 hpb al b13 h2 i2 X1 H1 K1
  go_upto_region 4 with (first | refine wpList_load38 X3.out rfl rfl ?_ | (go_at_call 14; refine (K2 _).mono ?_; rintro e w4 ⟨u, rfl, i4, h4⟩))
  refine named (P := Code.wp _ _ _ _) ?_
  intro w5 hw5
  obtain ⟨qb, hqb⟩ : ∃ qb, qb = w4.heap.size := ⟨_, rfl⟩
  have al : Below w4.heap.size w4 w5 := by rw [hw5]; exact alloc_below _ _
  have b35 : Below w3.heap.size w3 w5 := h4.trans (al.mono h4.size)
  have A5 := hide (show AwS w w5 cb pb qb t u from ⟨B3.out.trans (b35.mono B3.out.size), X3.out.below b35, P3.out.below b35, by rw [hw5, hqb]; exact Cells.new _ _ _, I3.out.below b35, i4.below al⟩)
  rw [← hqb]
  clear hw5 hqb al b35 h4 i4 X3 P3 I3 B3 K2
  go_cut [71] (fun v w' => v = .bool false ∧ Below w5.heap.size w5 w')
  case first =>
    refine wp_region_held_drew (S := fun wq => Below w5.heap.size w5 wq) (by kernel_rfl) (Below.refl _ _).drew (fun hS => ?_)
    generalize w5.drew = y0 at *
    refine take_at 0 (some 37) (v := ?_) rfl rfl (by kernel_rfl) (by kernel_rfl) (by kernel_rfl) (fun _ _ _ h => h) ⟨by rfl, ?_⟩ hS ?_
    rotate_left
    · intro wq hSw; go_simp; try rfl
    simp only [Act.put, List.setIfInBounds_toArray, List.set_cons_zero, List.set_cons_succ]
    refine take_at 1 (some 38) (v := ?_) rfl rfl (by kernel_rfl) (by kernel_rfl) (by kernel_rfl) (fun _ _ _ h => h) ⟨by rfl, ?_⟩ hS ?_
    rotate_left
    · intro wq hSw; go_simp; try rfl
    simp only [Act.put, List.setIfInBounds_toArray, List.set_cons_zero, List.set_cons_succ]
    refine take_at 2 (some 39) (v := ?_) rfl rfl (by kernel_rfl) (by kernel_rfl) (by kernel_rfl) (fun _ _ _ h => h) ⟨by rfl, ?_⟩ hS ?_
    rotate_left
    · intro wq hSw; go_simp; try rfl
    simp only [Act.put, List.setIfInBounds_toArray, List.set_cons_zero, List.set_cons_succ]
    refine take_at 3 (some 40) (v := ?_) rfl rfl (by kernel_rfl) (by kernel_rfl) (by kernel_rfl) (fun _ _ _ h => h) ⟨by rfl, ?_⟩ hS ?_
    rotate_left
    · intro wq hSw; go_simp; try rfl
    simp only [Act.put, List.setIfInBounds_toArray, List.set_cons_zero, List.set_cons_succ]
    refine take_at 4 (some 41) (v := ?_) rfl rfl (by kernel_rfl) (by kernel_rfl) (by kernel_rfl) (fun _ _ _ h => h) ⟨by rfl, ?_⟩ hS ?_
    rotate_left
    · intro wq hSw; go_simp; try rfl
    simp only [Act.put, List.setIfInBounds_toArray, List.set_cons_zero, List.set_cons_succ]
    refine take_at 5 (some 42) (v := ?_) rfl rfl (by kernel_rfl) (by kernel_rfl) (by kernel_rfl) (fun _ _ _ h => h) ⟨by rfl, ?_⟩ hS ?_
    rotate_left
    · intro wq hSw; go_simp; try rfl
    simp only [Act.put, List.setIfInBounds_toArray, List.set_cons_zero, List.set_cons_succ]
    refine take_at 6 (some 43) (v := ?_) rfl rfl (by kernel_rfl) (by kernel_rfl) (by kernel_rfl) (fun _ _ _ h => h) ⟨by rfl, ?_⟩ hS ?_
    rotate_left
    · intro wq hSw; go_simp; try rfl
    simp only [Act.put, List.setIfInBounds_toArray, List.set_cons_zero, List.set_cons_succ]
    refine take_at 7 (some 44) (v := ?_) rfl rfl (by kernel_rfl) (by kernel_rfl) (by kernel_rfl) (fun _ _ _ h => h) ⟨by rfl, ?_⟩ hS ?_
    rotate_left
    · intro wq hSw; go_simp; try rfl
    simp only [Act.put, List.setIfInBounds_toArray, List.set_cons_zero, List.set_cons_succ]
    refine wpAnyH_ready (rs := [8]) (by kernel_rfl) (by simp) ?_
    refine AllReadyH.cons rfl (fun K hK => ?_) AllReadyH.nil
    go_simp
    go_wp2_with fail
    refine (num_any _ _).mono ?_
    rintro e wz ⟨rfl, hz⟩
    obtain rfl : y0 = wz := hz.symm
    go_wp2_with fail
    refine hK.out _ _ hS (fun hS => ?_)
    clear hK K
    (try simp only [Act.put, List.setIfInBounds_toArray, List.set_cons_zero, List.set_cons_succ])
    refine take_at 9 (some 46) (v := ?_) rfl rfl (by kernel_rfl) (by kernel_rfl) (by kernel_rfl) (fun _ _ _ h => h) ⟨by rfl, ?_⟩ hS ?_
    rotate_left
    · intro wq hSw; go_simp; try rfl
    simp only [Act.put, List.setIfInBounds_toArray, List.set_cons_zero, List.set_cons_succ]
    refine take_at 10 (some 47) (v := ?_) rfl rfl (by kernel_rfl) (by kernel_rfl) (by kernel_rfl) (fun _ _ _ h => h) ⟨by rfl, ?_⟩ hS ?_
    rotate_left
    · intro wq hSw; go_simp; try rfl
    simp only [Act.put, List.setIfInBounds_toArray, List.set_cons_zero, List.set_cons_succ]
    refine take_at 11 (some 48) (v := ?_) rfl rfl (by kernel_rfl) (by kernel_rfl) (by kernel_rfl) (fun _ _ _ h => h) ⟨by rfl, ?_⟩ hS ?_
    rotate_left
    · intro wq hSw; go_simp; try rfl
    simp only [Act.put, List.setIfInBounds_toArray, List.set_cons_zero, List.set_cons_succ]
    refine take_at 12 (some 49) (v := ?_) rfl rfl (by kernel_rfl) (by kernel_rfl) (by kernel_rfl) (fun _ _ _ h => h) ⟨by rfl, ?_⟩ hS ?_
    rotate_left
    · intro wq hSw; go_simp; try rfl
    simp only [Act.put, List.setIfInBounds_toArray, List.set_cons_zero, List.set_cons_succ]
    refine wpAnyH_ready (rs := [13]) (by kernel_rfl) (by simp) ?_
    refine AllReadyH.cons rfl (fun K hK => ?_) AllReadyH.nil
    go_simp
    go_wp2_with fail
    refine (num_any _ _).mono ?_
    rintro e wz ⟨rfl, hz⟩
    obtain rfl : y0 = wz := hz.symm
    go_wp2_with fail
    refine hK.out _ _ hS (fun hS => ?_)
    clear hK K
    (try simp only [Act.put, List.setIfInBounds_toArray, List.set_cons_zero, List.set_cons_succ])
    refine take_at 14 (some 51) (v := ?_) rfl rfl (by kernel_rfl) (by kernel_rfl) (by kernel_rfl) (fun _ _ _ h => h) ⟨by rfl, ?_⟩ hS ?_
    rotate_left
    · intro wq hSw; go_simp; try rfl
    simp only [Act.put, List.setIfInBounds_toArray, List.set_cons_zero, List.set_cons_succ]
    refine take_at 15 (some 52) (v := ?_) rfl rfl (by kernel_rfl) (by kernel_rfl) (by kernel_rfl) (fun _ _ _ h => h) ⟨by rfl, ?_⟩ hS ?_
    rotate_left
    · intro wq hSw; go_simp; try rfl
    simp only [Act.put, List.setIfInBounds_toArray, List.set_cons_zero, List.set_cons_succ]
    refine take_at 16 (some 53) (v := ?_) rfl rfl (by kernel_rfl) (by kernel_rfl) (by kernel_rfl) (fun _ _ _ h => h) ⟨by rfl, ?_⟩ hS ?_
    rotate_left
    · intro wq hSw; go_simp; try rfl
    simp only [Act.put, List.setIfInBounds_toArray, List.set_cons_zero, List.set_cons_succ]
    refine take_at 17 (some 54) (v := ?_) rfl rfl (by kernel_rfl) (by kernel_rfl) (by kernel_rfl) (fun _ _ _ h => h) ⟨by rfl, ?_⟩ hS ?_
    rotate_left
    · intro wq hSw; have qq := A5.out.pc.below hSw; obtain ⟨q0, _⟩ := qq.get 0 _ rfl; obtain ⟨q1, _⟩ := qq.get 1 _ rfl; obtain ⟨q2, _⟩ := qq.get 2 _ rfl; obtain ⟨q3, _⟩ := qq.get 3 _ rfl; clear qq; go_simp; try rfl
    simp only [Act.put, List.setIfInBounds_toArray, List.set_cons_zero, List.set_cons_succ]
    refine take_at 19 (some 56) (v := ?_) rfl rfl (by kernel_rfl) (by kernel_rfl) (by kernel_rfl) (fun _ _ _ h => h) ⟨by rfl, ?_⟩ hS ?_
    rotate_left
    · intro wq hSw; go_simp; try rfl
    simp only [Act.put, List.setIfInBounds_toArray, List.set_cons_zero, List.set_cons_succ]
    refine take_at 20 (some 57) (v := ?_) rfl rfl (by kernel_rfl) (by kernel_rfl) (by kernel_rfl) (fun _ _ _ h => h) ⟨by rfl, ?_⟩ hS ?_
    rotate_left
    · intro wq hSw; have qq := (A5.out.rc.below hSw).cells; obtain ⟨q0, _⟩ := qq.get 9 _ rfl; obtain ⟨q1, _⟩ := qq.get 10 _ rfl; obtain ⟨q2, _⟩ := qq.get 11 _ rfl; obtain ⟨q3, _⟩ := qq.get 12 _ rfl; obtain ⟨q4, _⟩ := qq.get 13 _ rfl; clear qq; go_simp; try rfl
    simp only [Act.put, List.setIfInBounds_toArray, List.set_cons_zero, List.set_cons_succ]
    have uD := hide hS
    clear hS
    refine wpAnyH_ready (rs := [18, 21]) (by kernel_rfl) (by simp) ?_
    refine AllReadyH.cons rfl (fun K hK => ?_) (AllReadyH.cons rfl (fun K hK => ?_) AllReadyH.nil)
    · go_simp
      go_wp2_with fail
      refine (KB _ _).mono ?_
      rintro e ub ⟨rfl, hh⟩
      have uB := hide (uD.out.trans (hh.mono uD.out.size))
      clear hh
      go_wp2_with fail
      refine hK.out _ _ uB.out (fun hS => ?_)
      clear hK K
      (try simp only [Act.put, List.setIfInBounds_toArray, List.set_cons_zero, List.set_cons_succ])
      clear hS
      refine wpAnyH_ready (rs := [21]) (by kernel_rfl) (by simp) ?_
      refine AllReadyH.cons rfl (fun K hK => ?_) AllReadyH.nil
      go_simp
      go_wp2_with fail
      have uM := hide (uB.out.alloc uB.out.size (.cells (ctrC ⟨7, 2, 0, 10, 5⟩).toArray 32))
      have uX := hide ((A5.out.pi.below uM.out))
      have uN := hide (q1_in ub)
      refine hK.out _ _ uM.out (fun hS => ?_)
      clear hK K
      (try simp only [Act.put, List.setIfInBounds_toArray, List.set_cons_zero, List.set_cons_succ])
      refine take_at 22 (some 59) (v := ?_) rfl rfl (by kernel_rfl) (by kernel_rfl) (by kernel_rfl) (fun _ _ _ h => h) ⟨by rfl, ?_⟩ hS ?_
      rotate_left
      · intro wq hSw; go_simp; try rfl
      simp only [Act.put, List.setIfInBounds_toArray, List.set_cons_zero, List.set_cons_succ]
      clear hS
      refine wpAnyH_ready (rs := [23]) (by kernel_rfl) (by simp) ?_
      refine AllReadyH.cons rfl (fun K hK => ?_) AllReadyH.nil
      go_simp
      go_wp2_with fail
      refine (KS1 _ _ _ uX.out uN.out).mono ?_
      rintro e ue ⟨rfl, hh⟩
      have uE := hide (uM.out.trans (hh.mono uM.out.size))
      clear hh
      go_wp2_with fail
      refine hK.out _ _ uE.out (fun hS => ?_)
      clear hK K
      (try simp only [Act.put, List.setIfInBounds_toArray, List.set_cons_zero, List.set_cons_succ])
      refine take_at 24 (some 61) (v := ?_) rfl rfl (by kernel_rfl) (by kernel_rfl) (by kernel_rfl) (fun _ _ _ h => h) ⟨by rfl, ?_⟩ hS ?_
      rotate_left
      · intro wq hSw; go_simp; try rfl
      simp only [Act.put, List.setIfInBounds_toArray, List.set_cons_zero, List.set_cons_succ]
      refine take_at 25 (some 62) (v := ?_) rfl rfl (by kernel_rfl) (by kernel_rfl) (by kernel_rfl) (fun _ _ _ h => h) ⟨by rfl, ?_⟩ hS ?_
      rotate_left
      · intro wq hSw; go_simp; try rfl
      simp only [Act.put, List.setIfInBounds_toArray, List.set_cons_zero, List.set_cons_succ]
      refine take_at 26 (some 63) (v := ?_) rfl rfl (by kernel_rfl) (by kernel_rfl) (by kernel_rfl) (fun _ _ _ h => h) ⟨by rfl, ?_⟩ hS ?_
      rotate_left
      · intro wq hSw; go_simp; try rfl
      simp only [Act.put, List.setIfInBounds_toArray, List.set_cons_zero, List.set_cons_succ]
      refine take_at 27 (some 64) (v := ?_) rfl rfl (by kernel_rfl) (by kernel_rfl) (by kernel_rfl) (fun _ _ _ h => h) ⟨by rfl, ?_⟩ hS ?_
      rotate_left
      · intro wq hSw; have qq := A5.out.qc.below hSw; obtain ⟨q0, _⟩ := qq.get 0 _ rfl; obtain ⟨q1, _⟩ := qq.get 1 _ rfl; obtain ⟨q2, _⟩ := qq.get 2 _ rfl; obtain ⟨q3, _⟩ := qq.get 3 _ rfl; clear qq; go_simp; try rfl
      simp only [Act.put, List.setIfInBounds_toArray, List.set_cons_zero, List.set_cons_succ]
      refine take_at 29 (some 66) (v := ?_) rfl rfl (by kernel_rfl) (by kernel_rfl) (by kernel_rfl) (fun _ _ _ h => h) ⟨by rfl, ?_⟩ hS ?_
      rotate_left
      · intro wq hSw; go_simp; try rfl
      simp only [Act.put, List.setIfInBounds_toArray, List.set_cons_zero, List.set_cons_succ]
      have zD := hide hS
      clear hS
      refine wpAnyH_ready (rs := [28, 30]) (by kernel_rfl) (by simp) ?_
      refine AllReadyH.cons rfl (fun K hK => ?_) (AllReadyH.cons rfl (fun K hK => ?_) AllReadyH.nil)
      · go_simp
        go_wp2_with fail
        refine (KB2 _ _).mono ?_
        rintro e zb ⟨rfl, hh⟩
        have zB := hide (zD.out.trans (hh.mono zD.out.size))
        clear hh
        go_wp2_with fail
        refine hK.out _ _ zB.out (fun hS => ?_)
        clear hK K
        (try simp only [Act.put, List.setIfInBounds_toArray, List.set_cons_zero, List.set_cons_succ])
        clear hS
        refine wpAnyH_ready (rs := [30]) (by kernel_rfl) (by simp) ?_
        refine AllReadyH.cons rfl (fun K hK => ?_) AllReadyH.nil
        go_simp
        go_wp2_with fail
        have zM := hide (zB.out.alloc zB.out.size (.cells (grpC ⟨2, 5⟩).toArray 69))
        have zX := hide ((A5.out.qi.below zM.out))
        have zN := hide (q2_in zb)
        refine hK.out _ _ zM.out (fun hS => ?_)
        clear hK K
        (try simp only [Act.put, List.setIfInBounds_toArray, List.set_cons_zero, List.set_cons_succ])
        refine take_at 31 (some 68) (v := ?_) rfl rfl (by kernel_rfl) (by kernel_rfl) (by kernel_rfl) (fun _ _ _ h => h) ⟨by rfl, ?_⟩ hS ?_
        rotate_left
        · intro wq hSw; go_simp; try rfl
        simp only [Act.put, List.setIfInBounds_toArray, List.set_cons_zero, List.set_cons_succ]
        clear hS
        refine wpAnyH_ready (rs := [32]) (by kernel_rfl) (by simp) ?_
        refine AllReadyH.cons rfl (fun K hK => ?_) AllReadyH.nil
        go_simp
        go_wp2_with fail
        refine (KS2 _ _ _ zX.out zN.out).mono ?_
        rintro e ze ⟨rfl, hh⟩
        have zE := hide (zM.out.trans (hh.mono zM.out.size))
        clear hh
        go_wp2_with fail
        refine hK.out _ _ zE.out (fun hS => ?_)
        clear hK K
        (try simp only [Act.put, List.setIfInBounds_toArray, List.set_cons_zero, List.set_cons_succ])
        refine take_at 33 (some 70) (v := ?_) rfl rfl (by kernel_rfl) (by kernel_rfl) (by kernel_rfl) (fun _ _ _ h => h) ⟨by rfl, ?_⟩ hS ?_
        rotate_left
        · intro wq hSw; go_simp; try rfl
        simp only [Act.put, List.setIfInBounds_toArray, List.set_cons_zero, List.set_cons_succ]
        refine take_at 34 (some 71) (v := ?_) rfl rfl (by kernel_rfl) (by kernel_rfl) (by kernel_rfl) (fun _ _ _ h => h) ⟨by rfl, ?_⟩ hS ?_
        rotate_left
        · intro wq hSw; go_simp; try rfl
        simp only [Act.put, List.setIfInBounds_toArray, List.set_cons_zero, List.set_cons_succ]
        have FE := hide hS
        clear hS
        refine wpAnyH_done (by kernel_rfl) ?_ _
        go_wp2_with fail
        go_meet
        exact ⟨rfl, FE.out⟩
      · go_simp
        go_wp2_with fail
        have zM0 := hide (zD.out.alloc zD.out.size (.cells (grpC ⟨2, 5⟩).toArray 69))
        have zN0 := hide (q2_in ue)
        refine hK.out _ _ zM0.out (fun hS => ?_)
        clear hK K
        (try simp only [Act.put, List.setIfInBounds_toArray, List.set_cons_zero, List.set_cons_succ])
        refine take_at 31 (some 68) (v := ?_) rfl rfl (by kernel_rfl) (by kernel_rfl) (by kernel_rfl) (fun _ _ _ h => h) ⟨by rfl, ?_⟩ hS ?_
        rotate_left
        · intro wq hSw; go_simp; try rfl
        simp only [Act.put, List.setIfInBounds_toArray, List.set_cons_zero, List.set_cons_succ]
        clear hS
        refine wpAnyH_ready (rs := [28]) (by kernel_rfl) (by simp) ?_
        refine AllReadyH.cons rfl (fun K hK => ?_) AllReadyH.nil
        go_simp
        go_wp2_with fail
        refine (KB2 _ _).mono ?_
        rintro e zb ⟨rfl, hh⟩
        have zB := hide (zM0.out.trans (hh.mono zM0.out.size))
        have zN := hide (zN0.out.below hh)
        have zM := zB
        have zX := hide (A5.out.qi.below zB.out)
        clear hh
        go_wp2_with fail
        refine hK.out _ _ zB.out (fun hS => ?_)
        clear hK K
        (try simp only [Act.put, List.setIfInBounds_toArray, List.set_cons_zero, List.set_cons_succ])
        clear hS
        refine wpAnyH_ready (rs := [32]) (by kernel_rfl) (by simp) ?_
        refine AllReadyH.cons rfl (fun K hK => ?_) AllReadyH.nil
        go_simp
        go_wp2_with fail
        refine (KS2 _ _ _ zX.out zN.out).mono ?_
        rintro e ze ⟨rfl, hh⟩
        have zE := hide (zM.out.trans (hh.mono zM.out.size))
        clear hh
        go_wp2_with fail
        refine hK.out _ _ zE.out (fun hS => ?_)
        clear hK K
        (try simp only [Act.put, List.setIfInBounds_toArray, List.set_cons_zero, List.set_cons_succ])
        refine take_at 33 (some 70) (v := ?_) rfl rfl (by kernel_rfl) (by kernel_rfl) (by kernel_rfl) (fun _ _ _ h => h) ⟨by rfl, ?_⟩ hS ?_
        rotate_left
        · intro wq hSw; go_simp; try rfl
        simp only [Act.put, List.setIfInBounds_toArray, List.set_cons_zero, List.set_cons_succ]
        refine take_at 34 (some 71) (v := ?_) rfl rfl (by kernel_rfl) (by kernel_rfl) (by kernel_rfl) (fun _ _ _ h => h) ⟨by rfl, ?_⟩ hS ?_
        rotate_left
        · intro wq hSw; go_simp; try rfl
        simp only [Act.put, List.setIfInBounds_toArray, List.set_cons_zero, List.set_cons_succ]
        have FE := hide hS
        clear hS
        refine wpAnyH_done (by kernel_rfl) ?_ _
        go_wp2_with fail
        go_meet
        exact ⟨rfl, FE.out⟩
    · go_simp
      go_wp2_with fail
      have uM0 := hide (uD.out.alloc uD.out.size (.cells (ctrC ⟨7, 2, 0, 10, 5⟩).toArray 32))
      have uN0 := hide (q1_in y0)
      refine hK.out _ _ uM0.out (fun hS => ?_)
      clear hK K
      (try simp only [Act.put, List.setIfInBounds_toArray, List.set_cons_zero, List.set_cons_succ])
      refine take_at 22 (some 59) (v := ?_) rfl rfl (by kernel_rfl) (by kernel_rfl) (by kernel_rfl) (fun _ _ _ h => h) ⟨by rfl, ?_⟩ hS ?_
      rotate_left
      · intro wq hSw; go_simp; try rfl
      simp only [Act.put, List.setIfInBounds_toArray, List.set_cons_zero, List.set_cons_succ]
      clear hS
      refine wpAnyH_ready (rs := [18]) (by kernel_rfl) (by simp) ?_
      refine AllReadyH.cons rfl (fun K hK => ?_) AllReadyH.nil
      go_simp
      go_wp2_with fail
      refine (KB _ _).mono ?_
      rintro e ub ⟨rfl, hh⟩
      have uB := hide (uM0.out.trans (hh.mono uM0.out.size))
      have uN := hide (uN0.out.below hh)
      have uM := uB
      have uX := hide (A5.out.pi.below uB.out)
      clear hh
      go_wp2_with fail
      refine hK.out _ _ uB.out (fun hS => ?_)
      clear hK K
      (try simp only [Act.put, List.setIfInBounds_toArray, List.set_cons_zero, List.set_cons_succ])
      clear hS
      refine wpAnyH_ready (rs := [23]) (by kernel_rfl) (by simp) ?_
      refine AllReadyH.cons rfl (fun K hK => ?_) AllReadyH.nil
      go_simp
      go_wp2_with fail
      refine (KS1 _ _ _ uX.out uN.out).mono ?_
      rintro e ue ⟨rfl, hh⟩
      have uE := hide (uM.out.trans (hh.mono uM.out.size))
      clear hh
      go_wp2_with fail
      refine hK.out _ _ uE.out (fun hS => ?_)
      clear hK K
      (try simp only [Act.put, List.setIfInBounds_toArray, List.set_cons_zero, List.set_cons_succ])
      refine take_at 24 (some 61) (v := ?_) rfl rfl (by kernel_rfl) (by kernel_rfl) (by kernel_rfl) (fun _ _ _ h => h) ⟨by rfl, ?_⟩ hS ?_
      rotate_left
      · intro wq hSw; go_simp; try rfl
      simp only [Act.put, List.setIfInBounds_toArray, List.set_cons_zero, List.set_cons_succ]
      refine take_at 25 (some 62) (v := ?_) rfl rfl (by kernel_rfl) (by kernel_rfl) (by kernel_rfl) (fun _ _ _ h => h) ⟨by rfl, ?_⟩ hS ?_
      rotate_left
      · intro wq hSw; go_simp; try rfl
      simp only [Act.put, List.setIfInBounds_toArray, List.set_cons_zero, List.set_cons_succ]
      refine take_at 26 (some 63) (v := ?_) rfl rfl (by kernel_rfl) (by kernel_rfl) (by kernel_rfl) (fun _ _ _ h => h) ⟨by rfl, ?_⟩ hS ?_
      rotate_left
      · intro wq hSw; go_simp; try rfl
      simp only [Act.put, List.setIfInBounds_toArray, List.set_cons_zero, List.set_cons_succ]
      refine take_at 27 (some 64) (v := ?_) rfl rfl (by kernel_rfl) (by kernel_rfl) (by kernel_rfl) (fun _ _ _ h => h) ⟨by rfl, ?_⟩ hS ?_
      rotate_left
      · intro wq hSw; have qq := A5.out.qc.below hSw; obtain ⟨q0, _⟩ := qq.get 0 _ rfl; obtain ⟨q1, _⟩ := qq.get 1 _ rfl; obtain ⟨q2, _⟩ := qq.get 2 _ rfl; obtain ⟨q3, _⟩ := qq.get 3 _ rfl; clear qq; go_simp; try rfl
      simp only [Act.put, List.setIfInBounds_toArray, List.set_cons_zero, List.set_cons_succ]
      refine take_at 29 (some 66) (v := ?_) rfl rfl (by kernel_rfl) (by kernel_rfl) (by kernel_rfl) (fun _ _ _ h => h) ⟨by rfl, ?_⟩ hS ?_
      rotate_left
      · intro wq hSw; go_simp; try rfl
      simp only [Act.put, List.setIfInBounds_toArray, List.set_cons_zero, List.set_cons_succ]
      have zD := hide hS
      clear hS
      refine wpAnyH_ready (rs := [28, 30]) (by kernel_rfl) (by simp) ?_
      refine AllReadyH.cons rfl (fun K hK => ?_) (AllReadyH.cons rfl (fun K hK => ?_) AllReadyH.nil)
      · go_simp
        go_wp2_with fail
        refine (KB2 _ _).mono ?_
        rintro e zb ⟨rfl, hh⟩
        have zB := hide (zD.out.trans (hh.mono zD.out.size))
        clear hh
        go_wp2_with fail
        refine hK.out _ _ zB.out (fun hS => ?_)
        clear hK K
        (try simp only [Act.put, List.setIfInBounds_toArray, List.set_cons_zero, List.set_cons_succ])
        clear hS
        refine wpAnyH_ready (rs := [30]) (by kernel_rfl) (by simp) ?_
        refine AllReadyH.cons rfl (fun K hK => ?_) AllReadyH.nil
        go_simp
        go_wp2_with fail
        have zM := hide (zB.out.alloc zB.out.size (.cells (grpC ⟨2, 5⟩).toArray 69))
        have zX := hide ((A5.out.qi.below zM.out))
        have zN := hide (q2_in zb)
        refine hK.out _ _ zM.out (fun hS => ?_)
        clear hK K
        (try simp only [Act.put, List.setIfInBounds_toArray, List.set_cons_zero, List.set_cons_succ])
        refine take_at 31 (some 68) (v := ?_) rfl rfl (by kernel_rfl) (by kernel_rfl) (by kernel_rfl) (fun _ _ _ h => h) ⟨by rfl, ?_⟩ hS ?_
        rotate_left
        · intro wq hSw; go_simp; try rfl
        simp only [Act.put, List.setIfInBounds_toArray, List.set_cons_zero, List.set_cons_succ]
        clear hS
        refine wpAnyH_ready (rs := [32]) (by kernel_rfl) (by simp) ?_
        refine AllReadyH.cons rfl (fun K hK => ?_) AllReadyH.nil
        go_simp
        go_wp2_with fail
        refine (KS2 _ _ _ zX.out zN.out).mono ?_
        rintro e ze ⟨rfl, hh⟩
        have zE := hide (zM.out.trans (hh.mono zM.out.size))
        clear hh
        go_wp2_with fail
        refine hK.out _ _ zE.out (fun hS => ?_)
        clear hK K
        (try simp only [Act.put, List.setIfInBounds_toArray, List.set_cons_zero, List.set_cons_succ])
        refine take_at 33 (some 70) (v := ?_) rfl rfl (by kernel_rfl) (by kernel_rfl) (by kernel_rfl) (fun _ _ _ h => h) ⟨by rfl, ?_⟩ hS ?_
        rotate_left
        · intro wq hSw; go_simp; try rfl
        simp only [Act.put, List.setIfInBounds_toArray, List.set_cons_zero, List.set_cons_succ]
        refine take_at 34 (some 71) (v := ?_) rfl rfl (by kernel_rfl) (by kernel_rfl) (by kernel_rfl) (fun _ _ _ h => h) ⟨by rfl, ?_⟩ hS ?_
        rotate_left
        · intro wq hSw; go_simp; try rfl
        simp only [Act.put, List.setIfInBounds_toArray, List.set_cons_zero, List.set_cons_succ]
        have FE := hide hS
        clear hS
        refine wpAnyH_done (by kernel_rfl) ?_ _
        go_wp2_with fail
        go_meet
        exact ⟨rfl, FE.out⟩
      · go_simp
        go_wp2_with fail
        have zM0 := hide (zD.out.alloc zD.out.size (.cells (grpC ⟨2, 5⟩).toArray 69))
        have zN0 := hide (q2_in ue)
        refine hK.out _ _ zM0.out (fun hS => ?_)
        clear hK K
        (try simp only [Act.put, List.setIfInBounds_toArray, List.set_cons_zero, List.set_cons_succ])
        refine take_at 31 (some 68) (v := ?_) rfl rfl (by kernel_rfl) (by kernel_rfl) (by kernel_rfl) (fun _ _ _ h => h) ⟨by rfl, ?_⟩ hS ?_
        rotate_left
        · intro wq hSw; go_simp; try rfl
        simp only [Act.put, List.setIfInBounds_toArray, List.set_cons_zero, List.set_cons_succ]
        clear hS
        refine wpAnyH_ready (rs := [28]) (by kernel_rfl) (by simp) ?_
        refine AllReadyH.cons rfl (fun K hK => ?_) AllReadyH.nil
        go_simp
        go_wp2_with fail
        refine (KB2 _ _).mono ?_
        rintro e zb ⟨rfl, hh⟩
        have zB := hide (zM0.out.trans (hh.mono zM0.out.size))
        have zN := hide (zN0.out.below hh)
        have zM := zB
        have zX := hide (A5.out.qi.below zB.out)
        clear hh
        go_wp2_with fail
        refine hK.out _ _ zB.out (fun hS => ?_)
        clear hK K
        (try simp only [Act.put, List.setIfInBounds_toArray, List.set_cons_zero, List.set_cons_succ])
        clear hS
        refine wpAnyH_ready (rs := [32]) (by kernel_rfl) (by simp) ?_
        refine AllReadyH.cons rfl (fun K hK => ?_) AllReadyH.nil
        go_simp
        go_wp2_with fail
        refine (KS2 _ _ _ zX.out zN.out).mono ?_
        rintro e ze ⟨rfl, hh⟩
        have zE := hide (zM.out.trans (hh.mono zM.out.size))
        clear hh
        go_wp2_with fail
        refine hK.out _ _ zE.out (fun hS => ?_)
        clear hK K
        (try simp only [Act.put, List.setIfInBounds_toArray, List.set_cons_zero, List.set_cons_succ])
        refine take_at 33 (some 70) (v := ?_) rfl rfl (by kernel_rfl) (by kernel_rfl) (by kernel_rfl) (fun _ _ _ h => h) ⟨by rfl, ?_⟩ hS ?_
        rotate_left
        · intro wq hSw; go_simp; try rfl
        simp only [Act.put, List.setIfInBounds_toArray, List.set_cons_zero, List.set_cons_succ]
        refine take_at 34 (some 71) (v := ?_) rfl rfl (by kernel_rfl) (by kernel_rfl) (by kernel_rfl) (fun _ _ _ h => h) ⟨by rfl, ?_⟩ hS ?_
        rotate_left
        · intro wq hSw; go_simp; try rfl
        simp only [Act.put, List.setIfInBounds_toArray, List.set_cons_zero, List.set_cons_succ]
        have FE := hide hS
        clear hS
        refine wpAnyH_done (by kernel_rfl) ?_ _
        go_wp2_with fail
        go_meet
        exact ⟨rfl, FE.out⟩
  case rest =>
    obtain ⟨rfl, hb⟩ := hcut
    have A6 := hide (A5.out.below hb)
    clear hb A5 KB KB2 KS1 KS2
    obtain ⟨c6, -⟩ := A6.out.rc.cells.get 6 _ rfl
    obtain ⟨c7, -⟩ := A6.out.rc.cells.get 7 _ rfl
    go_upto_region 7 with (refine wpList_store38 (RBox.new _ #[.int .i64 0, .int .i64 0, .int .i64 0, .int .i64 0, .int .i64 0, .int .i64 0, .int .i64 0, .int .i64 0, .int .i64 0, .int .i64 0, .int .i64 0, .int .i64 0, .int .i64 0, .int .i64 0, .slice none 0 0, .slice none 0 0, .int .i64 0] 38) rfl rfl rfl rfl rfl ?_; intro w7 hx hk)
    have A7 := hide (A6.out.below ((alloc_below _ _).trans (hk.below (by simp) (fun k hk q => by omega))))
    obtain ⟨ab, hab⟩ : ∃ ab, ab = wc.heap.size := ⟨_, rfl⟩
    have Y7 := hide (show RBox w7 ab 38 (recA r2) by rw [hab]; exact hx)
    rw [← hab]
    clear hx hk hab c6 c7 A6
    obtain ⟨p0, -⟩ := A7.out.pc.get 0 _ rfl
    obtain ⟨p1, -⟩ := A7.out.pc.get 1 _ rfl
    obtain ⟨p2, -⟩ := A7.out.pc.get 2 _ rfl
    obtain ⟨p3, -⟩ := A7.out.pc.get 3 _ rfl
    have K3 := do_lit q1 t r2 w7 A7.out.pi q1_fit r2_fit true 0 q3 aw3.1 aw3.2.1 aw3.2.2
    simp only [pgV, pgA, List.length_cons, List.length_nil, Nat.zero_add] at K3
    go_upto_region 8 with (first | refine wpList_load38 Y7.out rfl rfl ?_ | (go_at_call 14; refine K3.mono ?_; rintro e w8 ⟨v, rfl, i8, h8⟩))
    refine named (P := Code.wp _ _ _ _) ?_
    intro w9 hw9
    obtain ⟨xb, hxb⟩ : ∃ xb, xb = w8.heap.size := ⟨_, rfl⟩
    have al : Below w8.heap.size w8 w9 := by rw [hw9]; exact alloc_below _ _
    have b79 : Below w7.heap.size w7 w9 := h8.trans (al.mono h8.size)
    have A9 := hide (A7.out.below b79)
    have Y9 := hide (Y7.out.below b79)
    have V9 := hide (i8.below al)
    have W9 := hide (show Cells w9 xb [.int .i64 0, .int .i64 6, .slice v.a 1 v.c, .slice v.b 0 v.d] by rw [hw9, hxb]; exact Cells.new _ _ _)
    rw [← hxb]
    clear hw9 hxb al b79 i8 h8 A7 Y7 K3 p0 p1 p2 p3
    obtain ⟨p0, -⟩ := A9.out.pc.get 0 _ rfl
    obtain ⟨p1, -⟩ := A9.out.pc.get 1 _ rfl
    obtain ⟨p2, -⟩ := A9.out.pc.get 2 _ rfl
    obtain ⟨p3, -⟩ := A9.out.pc.get 3 _ rfl
    have K4 := do_lit q1 t r1 w9 A9.out.pi q1_fit r1_fit false 0 _ aw4.1 aw4.2 rfl
    simp only [pgV, pgA, List.length_cons, List.length_nil, Nat.zero_add] at K4
    go_upto_region 9 with (first | refine wpList_load38 A9.out.rc rfl rfl ?_ | (go_at_call 14; refine K4.mono ?_; rintro e wa ⟨v4, rfl, i8, h8⟩))
    refine named (P := Code.wp _ _ _ _) ?_
    intro wb hwb
    have al : Below wa.heap.size wa wb := by rw [hwb]; exact alloc_below _ _
    have b9b : Below w9.heap.size w9 wb := h8.trans (al.mono h8.size)
    have Ab := hide (A9.out.below b9b)
    have Yb := hide (Y9.out.below b9b)
    have Vb := hide (V9.out.below b9b)
    have Wb := hide (W9.out.below b9b)
    clear hwb al b9b i8 h8 A9 Y9 V9 W9 K4 p0 p1 p2 p3
    go_upto_region 10 with (first | refine wpList_load38 Ab.out.rc rfl rfl ?_ | (go_at_call 14; refine (K5 _).mono ?_; rintro e wd ⟨v5, rfl, i8, h8⟩))
    refine named (P := Code.wp _ _ _ _) ?_
    intro we hwe
    have al : Below wd.heap.size wd we := by rw [hwe]; exact alloc_below _ _
    have b9b : Below wb.heap.size wb we := h8.trans (al.mono h8.size)
    have Be := hide (Ab.out.be.trans (b9b.mono Ab.out.be.size))
    have Ye := hide (Yb.out.below b9b)
    have Ve := hide (Vb.out.below b9b)
    have We := hide (Wb.out.below b9b)
    clear hwe al b9b i8 h8 Ab Yb Vb Wb K5
    obtain ⟨x2, -⟩ := We.out.get 2 _ rfl
    obtain ⟨vb, vo, ev, v0, v1, v2, v3, v4⟩ := crow_at Ve.out.lc (Below.refl _ _) (show 0 < q3.cs.length by decide)
    rw [ev] at x2
    simp only [Nat.zero_mul, Nat.add_zero, List.getElem_cons_zero] at v4
    have KP := pages_any r2 we
    unfold PagesPost at KP
    simp only [aw6, recV] at KP
    clear v0 v1 v2 v3
    go_wp2_with (first | (go_at_call 15; refine (num_any _ _).mono ?_; rintro e wz ⟨rfl, rfl⟩) | refine wpList_load38g Ye.out rfl rfl rfl ?_ | (go_at_call 21; refine KP.mono ?_; rintro e wf ⟨vp, rfl, gp, hp⟩; obtain ⟨ap, cp, rfl, lp, -⟩ := GRow.lies gp) | (go_at_call 20; refine (sameInts_true [0, 3] _ _ _ _ _ (lp.below (alloc_below _ _)) (lies_new _ (rowsC iC [0, 3]) 3) (by decide)).mono ?_; rintro e wg ⟨rfl, hg⟩))
    exact bodyPost_ret (v := .bool true) (by simp [results, Try.results8, go_sem]) rfl ⟨rfl, Be.out.trans ((hp.trans (((alloc_below wf _).trans (hg.mono (by simp))).mono hp.size)).mono Be.out.size)⟩
end Go.Proofs.Ytoocbpbaieedmaa
