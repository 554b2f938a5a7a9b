import Derived.Test.YtlloppalagddnaaSr2
set_option linter.all false
namespace Go.Proofs.Ytlloppalagddnaa
open Go.RowKit Go.QK Go.Maps Go.QM Go.QS Quota
set_option maxRecDepth 100000
theorem loadKV {w : World} {b : Nat} {t c : Int} (h : Cells w b [.int .i64 t, .int .i64 c]) : (loadVar 110 ⟨b, 0, none⟩).run Try.prog w = .ok (kV t c) w := by
  have h0 := (h.get 0 _ rfl).1
  have h1 := (h.get 1 _ rfl).1
  go_simp
theorem netOf_none {S : St} {t c : Int} (h : getM (S t) c = none) : netOf S t c = 0 := by unfold netOf; rw [h]; rfl
theorem netV_none {S : St} {t c : Int} (h : getM (S t) c = none) : netV S t c = none := by unfold netV; rw [h]; rfl
theorem netV_yes {S : St} {t c v : Int} (h : getM (S t) c = some v) : netV S t c = some (.int .i64 v) := by unfold netV; rw [h]; rfl
set_option maxHeartbeats 8000000 in
theorem add_no (lab : Nat → Nat) (B : Nat) (w : World) (hb mn mh : Nat) (rv : Value) (rs : List RV) (D : Hd) (S : St) (n : Nat) (h : PH lab B w hb mn mh rv rs D S n) (t c d : Int) (ht : 1 ≤ t ∧ t ≤ 2147483647) (hc : 1 ≤ c ∧ c ≤ 1048576) (hd : I64 d) (hn : (n + 1) * 8 ≤ 140737488355328) (hf : fitB (netOf S t c + d) = false) :
    Calls Try.prog 52 #[ptr hb, kV t c, .int .i64 d] w fun e w' => e = .returned (.int .i64 10) ∧ Below w.heap.size w w' := by
  have ht64 : I64 t := by unfold I64; omega
  have hc64 : I64 c := by unfold I64; omega
  obtain ⟨L1, L2, L3, L4, L5⟩ := h.lt
  have hB : B ≤ w.heap.size := by have := h.low.1; omega
  have bb := alloc_below w (.cells #[.int .i64 t, .int .i64 c] 110)
  have P1 := h.below bb
  have C1 := Cells.new w #[.int .i64 t, .int .i64 c] 110
  have q1 := h.l1
  have q2 := h.l2
  have q3 := h.l3
  have dn : ∀ {a b : Nat}, lab a ≠ lab b → a ≠ b := fun q r => q (by rw [r])
  have d1 : hb ≠ mn := dn (by omega)
  have d2 : hb ≠ mh := dn (by omega)
  have d3 : mn ≠ mh := dn (by omega)
  clear dn q1 q2 q3
  have hnet := netOf_fit h.ok t c
  have HV := hide (rfl : (getM (S t) c).isSome = (getM (S t) c).isSome)
  have EV := hide (show fitV (netOf S t c + d) = 0 by unfold fitV; rw [hf]; rfl)
  have EE := hide (show fitE (netOf S t c + d) = 10 by unfold fitE; rw [hf]; rfl)
  clear hf
  generalize hN : w.heap.size = N at *
  have HN := hide hN
  clear hN
  go_enter Try.func52, Try.ntmps52
  go_upto_region 1 with fail
  rw [show w.heap.size = N from HN.out]
  refine named (P := Code.wp _ _ _ _) ?_
  intro x1 hx1
  rw [← hx1] at P1 C1 bb
  have sz1 : N + 1 ≤ x1.heap.size := by have := C1.1; omega
  clear hx1
  refine wp_region_held_drew (S := fun wq => Cells wq hb [rv, .map (some mn), .map (some mh)] ∧ Cells wq N [.int .i64 t, .int .i64 c] ∧ NM wq mn (netV S) n) (by kernel_rfl) ⟨P1.box, C1, P1.nm⟩ (fun hS => ?_)
  have P2 := P1.below (Below.refl _ _).drew
  have C2 := C1.below (Below.refl _ _).drew
  have b2 := bb.drew
  have sz2 : N + 1 ≤ x1.drew.heap.size := sz1
  clear P1 C1 bb sz1
  generalize x1.drew = x2 at *
  refine take_at 0 (some 11) (v := ?_) rfl rfl (by kernel_rfl) (by kernel_rfl) (by kernel_rfl) (fun _ _ _ h => h) ⟨by rfl, ?_⟩ hS ?_
  rotate_left
  · intro wq hSw; go_simp; try rfl
  simp only [Act.put, List.setIfInBounds_toArray, List.set_cons_zero, List.set_cons_succ]
  refine take_at 1 (some 12) (v := ?_) rfl rfl (by kernel_rfl) (by kernel_rfl) (by kernel_rfl) (fun _ _ _ h => h) ⟨by rfl, ?_⟩ hS ?_
  rotate_left
  · intro wq hSw; go_simp; try rfl
  simp only [Act.put, List.setIfInBounds_toArray, List.set_cons_zero, List.set_cons_succ]
  refine take_at 2 (some 13) (v := ?_) rfl rfl (by kernel_rfl) (by kernel_rfl) (by kernel_rfl) (fun _ _ _ h => h) ⟨by rfl, ?_⟩ hS ?_
  rotate_left
  · intro wq hSw; go_simp; try rfl
  simp only [Act.put, List.setIfInBounds_toArray, List.set_cons_zero, List.set_cons_succ]
  refine take_at 3 (some 14) (v := ?_) rfl rfl (by kernel_rfl) (by kernel_rfl) (by kernel_rfl) (fun _ _ _ h => h) ⟨by rfl, ?_⟩ hS ?_
  rotate_left
  · intro wq hSw; have q := (hSw.1.get 1 _ rfl).1; go_simp; try rfl
  simp only [Act.put, List.setIfInBounds_toArray, List.set_cons_zero, List.set_cons_succ]
  refine take_at 4 (some 15) (v := ?_) rfl rfl (by kernel_rfl) (by kernel_rfl) (by kernel_rfl) (fun _ _ _ h => h) ⟨by rfl, ?_⟩ hS ?_
  rotate_left
  · intro wq hSw; have q := loadKV hSw.2.1; have q1 := (hSw.2.1.get 0 _ rfl).1; have q2 := (hSw.2.1.get 1 _ rfl).1; go_simp; try rfl
  simp only [Act.put, List.setIfInBounds_toArray, List.set_cons_zero, List.set_cons_succ]
  refine take_at 5 (some 16) (v := ?_) rfl rfl (by kernel_rfl) (by kernel_rfl) (by kernel_rfl) (fun _ _ _ h => h) ⟨by rfl, ?_⟩ hS ?_
  rotate_left
  · intro wq hSw; have hr := hSw.2.2.look ht64 hc64; rw [netV_I P2.ok, netV_some] at hr; go_simp; try rfl
  simp only [Act.put, List.setIfInBounds_toArray, List.set_cons_zero, List.set_cons_succ]
  refine take_at 6 (some 10) (v := ?_) rfl rfl (by kernel_rfl) (by kernel_rfl) (by kernel_rfl) (fun _ _ _ h => h) ⟨by rfl, ?_⟩ hS ?_
  rotate_left
  · intro wq hSw; go_simp; try rfl
  simp only [Act.put, List.setIfInBounds_toArray, List.set_cons_zero, List.set_cons_succ]
  refine take_at 7 (some 17) (v := ?_) rfl rfl (by kernel_rfl) (by kernel_rfl) (by kernel_rfl) (fun _ _ _ h => h) ⟨by rfl, ?_⟩ hS ?_
  rotate_left
  · intro wq hSw; go_simp; try rfl
  simp only [Act.put, List.setIfInBounds_toArray, List.set_cons_zero, List.set_cons_succ]
  refine take_at 8 (some 18) (v := ?_) rfl rfl (by kernel_rfl) (by kernel_rfl) (by kernel_rfl) (fun _ _ _ h => h) ⟨by rfl, ?_⟩ hS ?_
  rotate_left
  · intro wq hSw; go_simp; try rfl
  simp only [Act.put, List.setIfInBounds_toArray, List.set_cons_zero, List.set_cons_succ]
  refine take_at 9 (some 7) (v := ?_) rfl rfl (by kernel_rfl) (by kernel_rfl) (by kernel_rfl) (fun _ _ _ h => h) ⟨by rfl, ?_⟩ hS ?_
  rotate_left
  · intro wq hSw; go_simp; try rfl
  simp only [Act.put, List.setIfInBounds_toArray, List.set_cons_zero, List.set_cons_succ]
  refine take_at 10 (some 8) (v := ?_) rfl rfl (by kernel_rfl) (by kernel_rfl) (by kernel_rfl) (fun _ _ _ h => h) ⟨by rfl, ?_⟩ hS ?_
  rotate_left
  · intro wq hSw; go_simp; try rfl
  simp only [Act.put, List.setIfInBounds_toArray, List.set_cons_zero, List.set_cons_succ]
  refine wpAnyH_done (by kernel_rfl) ?_ _
  have HP := hide P2
  have HC := hide C2
  have B2 := hide b2
  clear P2 C2 b2 hS
  go_wp2_with fail
  refine (add_any (netOf S t c) d _ hnet hd).mono ?_
  rintro e x3 ⟨rfl, h3⟩
  have P3 := hide (HP.out.below h3)
  have C3 := hide (HC.out.below h3)
  have B3 := hide (B2.out.trans (h3.mono (by omega)))
  have sz3 : N + 1 ≤ x3.heap.size := by have := h3.size; omega
  clear h3 HP HC B2 sz2
  rw [EV.out, EE.out]
  go_wp2_with fail
  go_ret
  exact ⟨rfl, B3.out⟩
set_option maxHeartbeats 8000000 in
theorem add_old (lab : Nat → Nat) (B : Nat) (w : World) (hb mn mh : Nat) (rv : Value) (rs : List RV) (D : Hd) (S : St) (n : Nat) (h : PH lab B w hb mn mh rv rs D S n) (t c d : Int) (ht : 1 ≤ t ∧ t ≤ 2147483647) (hc : 1 ≤ c ∧ c ≤ 1048576) (hd : I64 d) (hn : (n + 1) * 8 ≤ 140737488355328) (hf : fitB (netOf S t c + d) = true) (hh : (getM (S t) c).isSome = true) :
    Calls Try.prog 52 #[ptr hb, kV t c, .int .i64 d] w fun e w' => e = .returned (.int .i64 0) ∧ (∃ lab' D', PH lab' B w' hb mn mh rv rs D' (setS S t (putM c (netOf S t c + d) (S t))) (n + 1)) ∧ Below B w w' := by
  have ht64 : I64 t := by unfold I64; omega
  have hc64 : I64 c := by unfold I64; omega
  obtain ⟨L1, L2, L3, L4, L5⟩ := h.lt
  have hB : B ≤ w.heap.size := by have := h.low.1; omega
  have bb := alloc_below w (.cells #[.int .i64 t, .int .i64 c] 110)
  have P1 := h.below bb
  have C1 := Cells.new w #[.int .i64 t, .int .i64 c] 110
  have q1 := h.l1
  have q2 := h.l2
  have q3 := h.l3
  have dn : ∀ {a b : Nat}, lab a ≠ lab b → a ≠ b := fun q r => q (by rw [r])
  have d1 : hb ≠ mn := dn (by omega)
  have d2 : hb ≠ mh := dn (by omega)
  have d3 : mn ≠ mh := dn (by omega)
  clear dn q1 q2 q3
  have hnet := netOf_fit h.ok t c
  have EV := hide (show fitV (netOf S t c + d) = netOf S t c + d by unfold fitV; rw [hf]; rfl)
  have EE := hide (show fitE (netOf S t c + d) = 0 by unfold fitE; rw [hf]; rfl)
  have hv : I64 (netOf S t c + d) := fitB_true.1 hf
  clear hf
  have HV := hide hh
  clear hh
  generalize hN : w.heap.size = N at *
  have HN := hide hN
  clear hN
  go_enter Try.func52, Try.ntmps52
  go_upto_region 1 with fail
  rw [show w.heap.size = N from HN.out]
  refine named (P := Code.wp _ _ _ _) ?_
  intro x1 hx1
  rw [← hx1] at P1 C1 bb
  have sz1 : N + 1 ≤ x1.heap.size := by have := C1.1; omega
  clear hx1
  refine wp_region_held_drew (S := fun wq => Cells wq hb [rv, .map (some mn), .map (some mh)] ∧ Cells wq N [.int .i64 t, .int .i64 c] ∧ NM wq mn (netV S) n) (by kernel_rfl) ⟨P1.box, C1, P1.nm⟩ (fun hS => ?_)
  have P2 := P1.below (Below.refl _ _).drew
  have C2 := C1.below (Below.refl _ _).drew
  have b2 := bb.drew
  have sz2 : N + 1 ≤ x1.drew.heap.size := sz1
  clear P1 C1 bb sz1
  generalize x1.drew = x2 at *
  refine take_at 0 (some 11) (v := ?_) rfl rfl (by kernel_rfl) (by kernel_rfl) (by kernel_rfl) (fun _ _ _ h => h) ⟨by rfl, ?_⟩ hS ?_
  rotate_left
  · intro wq hSw; go_simp; try rfl
  simp only [Act.put, List.setIfInBounds_toArray, List.set_cons_zero, List.set_cons_succ]
  refine take_at 1 (some 12) (v := ?_) rfl rfl (by kernel_rfl) (by kernel_rfl) (by kernel_rfl) (fun _ _ _ h => h) ⟨by rfl, ?_⟩ hS ?_
  rotate_left
  · intro wq hSw; go_simp; try rfl
  simp only [Act.put, List.setIfInBounds_toArray, List.set_cons_zero, List.set_cons_succ]
  refine take_at 2 (some 13) (v := ?_) rfl rfl (by kernel_rfl) (by kernel_rfl) (by kernel_rfl) (fun _ _ _ h => h) ⟨by rfl, ?_⟩ hS ?_
  rotate_left
  · intro wq hSw; go_simp; try rfl
  simp only [Act.put, List.setIfInBounds_toArray, List.set_cons_zero, List.set_cons_succ]
  refine take_at 3 (some 14) (v := ?_) rfl rfl (by kernel_rfl) (by kernel_rfl) (by kernel_rfl) (fun _ _ _ h => h) ⟨by rfl, ?_⟩ hS ?_
  rotate_left
  · intro wq hSw; have q := (hSw.1.get 1 _ rfl).1; go_simp; try rfl
  simp only [Act.put, List.setIfInBounds_toArray, List.set_cons_zero, List.set_cons_succ]
  refine take_at 4 (some 15) (v := ?_) rfl rfl (by kernel_rfl) (by kernel_rfl) (by kernel_rfl) (fun _ _ _ h => h) ⟨by rfl, ?_⟩ hS ?_
  rotate_left
  · intro wq hSw; have q := loadKV hSw.2.1; have q1 := (hSw.2.1.get 0 _ rfl).1; have q2 := (hSw.2.1.get 1 _ rfl).1; go_simp; try rfl
  simp only [Act.put, List.setIfInBounds_toArray, List.set_cons_zero, List.set_cons_succ]
  refine take_at 5 (some 16) (v := ?_) rfl rfl (by kernel_rfl) (by kernel_rfl) (by kernel_rfl) (fun _ _ _ h => h) ⟨by rfl, ?_⟩ hS ?_
  rotate_left
  · intro wq hSw; have hr := hSw.2.2.look ht64 hc64; rw [netV_I P2.ok, netV_some] at hr; rw [HV.out] at hr; go_simp; try rfl
  simp only [Act.put, List.setIfInBounds_toArray, List.set_cons_zero, List.set_cons_succ]
  refine take_at 6 (some 10) (v := ?_) rfl rfl (by kernel_rfl) (by kernel_rfl) (by kernel_rfl) (fun _ _ _ h => h) ⟨by rfl, ?_⟩ hS ?_
  rotate_left
  · intro wq hSw; go_simp; try rfl
  simp only [Act.put, List.setIfInBounds_toArray, List.set_cons_zero, List.set_cons_succ]
  refine take_at 7 (some 17) (v := ?_) rfl rfl (by kernel_rfl) (by kernel_rfl) (by kernel_rfl) (fun _ _ _ h => h) ⟨by rfl, ?_⟩ hS ?_
  rotate_left
  · intro wq hSw; go_simp; try rfl
  simp only [Act.put, List.setIfInBounds_toArray, List.set_cons_zero, List.set_cons_succ]
  refine take_at 8 (some 18) (v := ?_) rfl rfl (by kernel_rfl) (by kernel_rfl) (by kernel_rfl) (fun _ _ _ h => h) ⟨by rfl, ?_⟩ hS ?_
  rotate_left
  · intro wq hSw; go_simp; try rfl
  simp only [Act.put, List.setIfInBounds_toArray, List.set_cons_zero, List.set_cons_succ]
  refine take_at 9 (some 7) (v := ?_) rfl rfl (by kernel_rfl) (by kernel_rfl) (by kernel_rfl) (fun _ _ _ h => h) ⟨by rfl, ?_⟩ hS ?_
  rotate_left
  · intro wq hSw; go_simp; try rfl
  simp only [Act.put, List.setIfInBounds_toArray, List.set_cons_zero, List.set_cons_succ]
  refine take_at 10 (some 8) (v := ?_) rfl rfl (by kernel_rfl) (by kernel_rfl) (by kernel_rfl) (fun _ _ _ h => h) ⟨by rfl, ?_⟩ hS ?_
  rotate_left
  · intro wq hSw; go_simp; try rfl
  simp only [Act.put, List.setIfInBounds_toArray, List.set_cons_zero, List.set_cons_succ]
  refine wpAnyH_done (by kernel_rfl) ?_ _
  have HP := hide P2
  have HC := hide C2
  have B2 := hide b2
  clear P2 C2 b2 hS
  go_wp2_with fail
  refine (add_any (netOf S t c) d _ hnet hd).mono ?_
  rintro e x3 ⟨rfl, h3⟩
  have P3 := hide (HP.out.below h3)
  have C3 := hide (HC.out.below h3)
  have B3 := hide (B2.out.trans (h3.mono (by omega)))
  have sz3 : N + 1 ≤ x3.heap.size := by have := h3.size; omega
  clear h3 HP HC B2 sz2
  rw [EV.out, EE.out]
  have XB := hide P3.out.box
  have XC := C3
  have NMx := hide P3.out.nm
  obtain ⟨xd, hxd⟩ : ∃ xd, xd = x3 := ⟨_, rfl⟩
  have KA := hide (show Keep (fun z => z = mn) x3 xd from by rw [hxd]; exact Keep.refl _ _)
  have szd : N + 1 ≤ xd.heap.size := by rw [hxd]; exact sz3
  rw [← hxd] at XB XC NMx
  clear C3 sz3
  rw [← hxd]
  clear hxd
  go_upto_region 7 with fail
  refine wp_region_held_drew (S := fun wq => Cells wq hb [rv, .map (some mn), .map (some mh)] ∧ Cells wq N [.int .i64 t, .int .i64 c]) (by kernel_rfl) ⟨XB.out, XC.out⟩ (fun hS => ?_)
  have XB2 := hide (XB.out.below (Below.refl _ _).drew)
  have XC2 := hide (XC.out.below (Below.refl _ _).drew)
  have KA2 := hide KA.out.drew
  have NM2 := hide (NMx.out.below (Below.refl _ _).drew)
  have sz6 : N + 1 ≤ xd.drew.heap.size := szd
  clear XB XC KA NMx szd
  generalize xd.drew = x6 at *
  refine take_at 0 (some 47) (v := ?_) rfl rfl (by kernel_rfl) (by kernel_rfl) (by kernel_rfl) (fun _ _ _ h => h) ⟨by rfl, ?_⟩ hS ?_
  rotate_left
  · intro wq hSw; go_simp; try rfl
  simp only [Act.put, List.setIfInBounds_toArray, List.set_cons_zero, List.set_cons_succ]
  refine take_at 1 (some 48) (v := ?_) rfl rfl (by kernel_rfl) (by kernel_rfl) (by kernel_rfl) (fun _ _ _ h => h) ⟨by rfl, ?_⟩ hS ?_
  rotate_left
  · intro wq hSw; go_simp; try rfl
  simp only [Act.put, List.setIfInBounds_toArray, List.set_cons_zero, List.set_cons_succ]
  refine take_at 2 (some 49) (v := ?_) rfl rfl (by kernel_rfl) (by kernel_rfl) (by kernel_rfl) (fun _ _ _ h => h) ⟨by rfl, ?_⟩ hS ?_
  rotate_left
  · intro wq hSw; go_simp; try rfl
  simp only [Act.put, List.setIfInBounds_toArray, List.set_cons_zero, List.set_cons_succ]
  refine take_at 3 (some 50) (v := ?_) rfl rfl (by kernel_rfl) (by kernel_rfl) (by kernel_rfl) (fun _ _ _ h => h) ⟨by rfl, ?_⟩ hS ?_
  rotate_left
  · intro wq hSw; have q := (hSw.1.get 1 _ rfl).1; go_simp; try rfl
  simp only [Act.put, List.setIfInBounds_toArray, List.set_cons_zero, List.set_cons_succ]
  refine take_at 4 (some 51) (v := ?_) rfl rfl (by kernel_rfl) (by kernel_rfl) (by kernel_rfl) (fun _ _ _ h => h) ⟨by rfl, ?_⟩ hS ?_
  rotate_left
  · intro wq hSw; have q := loadKV hSw.2; have q1 := (hSw.2.get 0 _ rfl).1; have q2 := (hSw.2.get 1 _ rfl).1; go_simp; try rfl
  simp only [Act.put, List.setIfInBounds_toArray, List.set_cons_zero, List.set_cons_succ]
  refine take_at 5 (some 52) (v := ?_) rfl rfl (by kernel_rfl) (by kernel_rfl) (by kernel_rfl) (fun _ _ _ h => h) ⟨by rfl, ?_⟩ hS ?_
  rotate_left
  · intro wq hSw; go_simp; try rfl
  simp only [Act.put, List.setIfInBounds_toArray, List.set_cons_zero, List.set_cons_succ]
  obtain ⟨x7, hu7, nm7, hg7⟩ := NM2.out.put (by unfold maxLen; omega) ht64 hc64 (.int .i64 (netOf S t c + d))
  have k67 := grown_m hg7
  have HU7 := hide hu7
  have KK := hide k67
  clear hu7 hg7
  have s7 : Cells x7 hb [rv, .map (some mn), .map (some mh)] := XB2.out.keep k67 d1
  have s8 : Cells x7 N [.int .i64 t, .int .i64 c] := XC2.out.keep k67 (by omega)
  clear k67
  refine wpAnyH_ready (rs := [6]) (by kernel_rfl) (by simp) ?_
  refine AllReadyH.cons rfl (fun K hK => ?_) AllReadyH.nil
  refine wp_upd (.tmp 50) (.tmp 51) (.tmp 52) rfl rfl rfl rfl rfl HU7.out ?_
  refine hK.out _ _ ⟨s7, s8⟩ (fun hS => ?_)
  clear hK K hS s7 s8 HU7
  (try simp only [Act.put, List.setIfInBounds_toArray, List.set_cons_zero, List.set_cons_succ])
  refine wpAnyH_done (by kernel_rfl) ?_ _
  go_wp2_with fail
  go_ret
  have kk := KA2.out.trans KK.out (fun _ _ q => q)
  refine ⟨rfl, ⟨lab, D, P3.out.add_old hc hv kk nm7 HV.out⟩, ?_⟩
  have e1 := B3.out.mono hB
  exact e1.trans (kk.below (by have := e1.size; have := HN.out; omega) (fun z hz q => by have := P3.out.low.2.1; omega))
set_option maxHeartbeats 8000000 in
theorem add_new (lab : Nat → Nat) (B : Nat) (w : World) (hb mn mh : Nat) (rv : Value) (rs : List RV) (D : Hd) (S : St) (n : Nat) (h : PH lab B w hb mn mh rv rs D S n) (t c d : Int) (ht : 1 ≤ t ∧ t ≤ 2147483647) (hc : 1 ≤ c ∧ c ≤ 1048576) (hd : I64 d) (hn : (n + 1) * 8 ≤ 140737488355328) (hf : fitB (netOf S t c + d) = true) (hh : getM (S t) c = none) :
    Calls Try.prog 52 #[ptr hb, kV t c, .int .i64 d] w fun e w' => e = .returned (.int .i64 0) ∧ (∃ lab' D', PH lab' B w' hb mn mh rv rs D' (setS S t (putM c (netOf S t c + d) (S t))) (n + 1)) ∧ Below B w w' := by
  have ht64 : I64 t := by unfold I64; omega
  have hc64 : I64 c := by unfold I64; omega
  obtain ⟨L1, L2, L3, L4, L5⟩ := h.lt
  have hB : B ≤ w.heap.size := by have := h.low.1; omega
  have bb := alloc_below w (.cells #[.int .i64 t, .int .i64 c] 110)
  have P1 := h.below bb
  have C1 := Cells.new w #[.int .i64 t, .int .i64 c] 110
  have q1 := h.l1
  have q2 := h.l2
  have q3 := h.l3
  have dn : ∀ {a b : Nat}, lab a ≠ lab b → a ≠ b := fun q r => q (by rw [r])
  have d1 : hb ≠ mn := dn (by omega)
  have d2 : hb ≠ mh := dn (by omega)
  have d3 : mn ≠ mh := dn (by omega)
  clear dn q1 q2 q3
  have LH := hide (show ∀ g, (hldV D t).ownBlock = some g → g < w.heap.size from fun g hg => (World.ownsRow.lt (h.heldO t) g hg).2)
  have hnet := netOf_fit h.ok t c
  have EV := hide (show fitV (netOf S t c + d) = netOf S t c + d by unfold fitV; rw [hf]; rfl)
  have EE := hide (show fitE (netOf S t c + d) = 0 by unfold fitE; rw [hf]; rfl)
  have hv : I64 (netOf S t c + d) := fitB_true.1 hf
  clear hf
  have HV := hide (show (getM (S t) c).isSome = false by rw [hh]; rfl)
  clear hh
  generalize hN : w.heap.size = N at *
  have HN := hide hN
  clear hN
  go_enter Try.func52, Try.ntmps52
  go_upto_region 1 with fail
  rw [show w.heap.size = N from HN.out]
  refine named (P := Code.wp _ _ _ _) ?_
  intro x1 hx1
  rw [← hx1] at P1 C1 bb
  have sz1 : N + 1 ≤ x1.heap.size := by have := C1.1; omega
  clear hx1
  refine wp_region_held_drew (S := fun wq => Cells wq hb [rv, .map (some mn), .map (some mh)] ∧ Cells wq N [.int .i64 t, .int .i64 c] ∧ NM wq mn (netV S) n) (by kernel_rfl) ⟨P1.box, C1, P1.nm⟩ (fun hS => ?_)
  have P2 := P1.below (Below.refl _ _).drew
  have C2 := C1.below (Below.refl _ _).drew
  have b2 := bb.drew
  have sz2 : N + 1 ≤ x1.drew.heap.size := sz1
  clear P1 C1 bb sz1
  generalize x1.drew = x2 at *
  refine take_at 0 (some 11) (v := ?_) rfl rfl (by kernel_rfl) (by kernel_rfl) (by kernel_rfl) (fun _ _ _ h => h) ⟨by rfl, ?_⟩ hS ?_
  rotate_left
  · intro wq hSw; go_simp; try rfl
  simp only [Act.put, List.setIfInBounds_toArray, List.set_cons_zero, List.set_cons_succ]
  refine take_at 1 (some 12) (v := ?_) rfl rfl (by kernel_rfl) (by kernel_rfl) (by kernel_rfl) (fun _ _ _ h => h) ⟨by rfl, ?_⟩ hS ?_
  rotate_left
  · intro wq hSw; go_simp; try rfl
  simp only [Act.put, List.setIfInBounds_toArray, List.set_cons_zero, List.set_cons_succ]
  refine take_at 2 (some 13) (v := ?_) rfl rfl (by kernel_rfl) (by kernel_rfl) (by kernel_rfl) (fun _ _ _ h => h) ⟨by rfl, ?_⟩ hS ?_
  rotate_left
  · intro wq hSw; go_simp; try rfl
  simp only [Act.put, List.setIfInBounds_toArray, List.set_cons_zero, List.set_cons_succ]
  refine take_at 3 (some 14) (v := ?_) rfl rfl (by kernel_rfl) (by kernel_rfl) (by kernel_rfl) (fun _ _ _ h => h) ⟨by rfl, ?_⟩ hS ?_
  rotate_left
  · intro wq hSw; have q := (hSw.1.get 1 _ rfl).1; go_simp; try rfl
  simp only [Act.put, List.setIfInBounds_toArray, List.set_cons_zero, List.set_cons_succ]
  refine take_at 4 (some 15) (v := ?_) rfl rfl (by kernel_rfl) (by kernel_rfl) (by kernel_rfl) (fun _ _ _ h => h) ⟨by rfl, ?_⟩ hS ?_
  rotate_left
  · intro wq hSw; have q := loadKV hSw.2.1; have q1 := (hSw.2.1.get 0 _ rfl).1; have q2 := (hSw.2.1.get 1 _ rfl).1; go_simp; try rfl
  simp only [Act.put, List.setIfInBounds_toArray, List.set_cons_zero, List.set_cons_succ]
  refine take_at 5 (some 16) (v := ?_) rfl rfl (by kernel_rfl) (by kernel_rfl) (by kernel_rfl) (fun _ _ _ h => h) ⟨by rfl, ?_⟩ hS ?_
  rotate_left
  · intro wq hSw; have hr := hSw.2.2.look ht64 hc64; rw [netV_I P2.ok, netV_some] at hr; rw [HV.out] at hr; go_simp; try rfl
  simp only [Act.put, List.setIfInBounds_toArray, List.set_cons_zero, List.set_cons_succ]
  refine take_at 6 (some 10) (v := ?_) rfl rfl (by kernel_rfl) (by kernel_rfl) (by kernel_rfl) (fun _ _ _ h => h) ⟨by rfl, ?_⟩ hS ?_
  rotate_left
  · intro wq hSw; go_simp; try rfl
  simp only [Act.put, List.setIfInBounds_toArray, List.set_cons_zero, List.set_cons_succ]
  refine take_at 7 (some 17) (v := ?_) rfl rfl (by kernel_rfl) (by kernel_rfl) (by kernel_rfl) (fun _ _ _ h => h) ⟨by rfl, ?_⟩ hS ?_
  rotate_left
  · intro wq hSw; go_simp; try rfl
  simp only [Act.put, List.setIfInBounds_toArray, List.set_cons_zero, List.set_cons_succ]
  refine take_at 8 (some 18) (v := ?_) rfl rfl (by kernel_rfl) (by kernel_rfl) (by kernel_rfl) (fun _ _ _ h => h) ⟨by rfl, ?_⟩ hS ?_
  rotate_left
  · intro wq hSw; go_simp; try rfl
  simp only [Act.put, List.setIfInBounds_toArray, List.set_cons_zero, List.set_cons_succ]
  refine take_at 9 (some 7) (v := ?_) rfl rfl (by kernel_rfl) (by kernel_rfl) (by kernel_rfl) (fun _ _ _ h => h) ⟨by rfl, ?_⟩ hS ?_
  rotate_left
  · intro wq hSw; go_simp; try rfl
  simp only [Act.put, List.setIfInBounds_toArray, List.set_cons_zero, List.set_cons_succ]
  refine take_at 10 (some 8) (v := ?_) rfl rfl (by kernel_rfl) (by kernel_rfl) (by kernel_rfl) (fun _ _ _ h => h) ⟨by rfl, ?_⟩ hS ?_
  rotate_left
  · intro wq hSw; go_simp; try rfl
  simp only [Act.put, List.setIfInBounds_toArray, List.set_cons_zero, List.set_cons_succ]
  refine wpAnyH_done (by kernel_rfl) ?_ _
  have HP := hide P2
  have HC := hide C2
  have B2 := hide b2
  clear P2 C2 b2 hS
  go_wp2_with fail
  refine (add_any (netOf S t c) d _ hnet hd).mono ?_
  rintro e x3 ⟨rfl, h3⟩
  have P3 := hide (HP.out.below h3)
  have C3 := hide (HC.out.below h3)
  have B3 := hide (B2.out.trans (h3.mono (by omega)))
  have sz3 : N + 1 ≤ x3.heap.size := by have := h3.size; omega
  clear h3 HP HC B2 sz2
  rw [EV.out, EE.out]
  go_upto_region 6 with fail
  refine wp_region_held_drew (S := fun wq => Cells wq hb [rv, .map (some mn), .map (some mh)] ∧ Cells wq N [.int .i64 t, .int .i64 c]) (by kernel_rfl) ⟨P3.out.box, C3.out⟩ (fun hS => ?_)
  have Pa := hide (P3.out.below (Below.refl _ _).drew)
  have Ca := hide (C3.out.below (Below.refl _ _).drew)
  have Ba := hide B3.out.drew
  have sza : N + 1 ≤ x3.drew.heap.size := sz3
  clear P3 C3 B3 sz3
  generalize x3.drew = xa at *
  refine take_at 0 (some 30) (v := ?_) rfl rfl (by kernel_rfl) (by kernel_rfl) (by kernel_rfl) (fun _ _ _ h => h) ⟨by rfl, ?_⟩ hS ?_
  rotate_left
  · intro wq hSw; go_simp; try rfl
  simp only [Act.put, List.setIfInBounds_toArray, List.set_cons_zero, List.set_cons_succ]
  refine take_at 1 (some 31) (v := ?_) rfl rfl (by kernel_rfl) (by kernel_rfl) (by kernel_rfl) (fun _ _ _ h => h) ⟨by rfl, ?_⟩ hS ?_
  rotate_left
  · intro wq hSw; go_simp; try rfl
  simp only [Act.put, List.setIfInBounds_toArray, List.set_cons_zero, List.set_cons_succ]
  refine take_at 2 (some 32) (v := ?_) rfl rfl (by kernel_rfl) (by kernel_rfl) (by kernel_rfl) (fun _ _ _ h => h) ⟨by rfl, ?_⟩ hS ?_
  rotate_left
  · intro wq hSw; go_simp; try rfl
  simp only [Act.put, List.setIfInBounds_toArray, List.set_cons_zero, List.set_cons_succ]
  refine take_at 3 (some 33) (v := ?_) rfl rfl (by kernel_rfl) (by kernel_rfl) (by kernel_rfl) (fun _ _ _ h => h) ⟨by rfl, ?_⟩ hS ?_
  rotate_left
  · intro wq hSw; have q := (hSw.1.get 2 _ rfl).1; go_simp; try rfl
  simp only [Act.put, List.setIfInBounds_toArray, List.set_cons_zero, List.set_cons_succ]
  refine take_at 4 (some 34) (v := ?_) rfl rfl (by kernel_rfl) (by kernel_rfl) (by kernel_rfl) (fun _ _ _ h => h) ⟨by rfl, ?_⟩ hS ?_
  rotate_left
  · intro wq hSw; go_simp; try rfl
  simp only [Act.put, List.setIfInBounds_toArray, List.set_cons_zero, List.set_cons_succ]
  refine take_at 5 (some 35) (v := ?_) rfl rfl (by kernel_rfl) (by kernel_rfl) (by kernel_rfl) (fun _ _ _ h => h) ⟨by rfl, ?_⟩ hS ?_
  rotate_left
  · intro wq hSw; have q := (hSw.2.get 0 _ rfl).1; go_simp; try rfl
  simp only [Act.put, List.setIfInBounds_toArray, List.set_cons_zero, List.set_cons_succ]
  refine take_at 6 (some 36) (v := ?_) rfl rfl (by kernel_rfl) (by kernel_rfl) (by kernel_rfl) (fun _ _ _ h => h) ⟨by rfl, ?_⟩ hS ?_
  rotate_left
  · intro wq hSw; go_simp; try rfl
  simp only [Act.put, List.setIfInBounds_toArray, List.set_cons_zero, List.set_cons_succ]
  refine take_at 7 (some 37) (v := ?_) rfl rfl (by kernel_rfl) (by kernel_rfl) (by kernel_rfl) (fun _ _ _ h => h) ⟨by rfl, ?_⟩ hS ?_
  rotate_left
  · intro wq hSw; go_simp; try rfl
  simp only [Act.put, List.setIfInBounds_toArray, List.set_cons_zero, List.set_cons_succ]
  refine take_at 8 (some 38) (v := ?_) rfl rfl (by kernel_rfl) (by kernel_rfl) (by kernel_rfl) (fun _ _ _ h => h) ⟨by rfl, ?_⟩ hS ?_
  rotate_left
  · intro wq hSw; go_simp; try rfl
  simp only [Act.put, List.setIfInBounds_toArray, List.set_cons_zero, List.set_cons_succ]
  refine take_at 9 (some 39) (v := ?_) rfl rfl (by kernel_rfl) (by kernel_rfl) (by kernel_rfl) (fun _ _ _ h => h) ⟨by rfl, ?_⟩ hS ?_
  rotate_left
  · intro wq hSw; have q := (hSw.1.get 2 _ rfl).1; go_simp; try rfl
  simp only [Act.put, List.setIfInBounds_toArray, List.set_cons_zero, List.set_cons_succ]
  refine take_at 10 (some 40) (v := ?_) rfl rfl (by kernel_rfl) (by kernel_rfl) (by kernel_rfl) (fun _ _ _ h => h) ⟨by rfl, ?_⟩ hS ?_
  rotate_left
  · intro wq hSw; go_simp; try rfl
  simp only [Act.put, List.setIfInBounds_toArray, List.set_cons_zero, List.set_cons_succ]
  refine take_at 11 (some 41) (v := ?_) rfl rfl (by kernel_rfl) (by kernel_rfl) (by kernel_rfl) (fun _ _ _ h => h) ⟨by rfl, ?_⟩ hS ?_
  rotate_left
  · intro wq hSw; have q := (hSw.2.get 0 _ rfl).1; go_simp; try rfl
  simp only [Act.put, List.setIfInBounds_toArray, List.set_cons_zero, List.set_cons_succ]
  refine take_at 13 (some 43) (v := ?_) rfl rfl (by kernel_rfl) (by kernel_rfl) (by kernel_rfl) (fun _ _ _ h => h) ⟨by rfl, ?_⟩ hS ?_
  rotate_left
  · intro wq hSw; go_simp; try rfl
  simp only [Act.put, List.setIfInBounds_toArray, List.set_cons_zero, List.set_cons_succ]
  refine take_at 14 (some 44) (v := ?_) rfl rfl (by kernel_rfl) (by kernel_rfl) (by kernel_rfl) (fun _ _ _ h => h) ⟨by rfl, ?_⟩ hS ?_
  rotate_left
  · intro wq hSw; have q := (hSw.2.get 1 _ rfl).1; go_simp; try rfl
  simp only [Act.put, List.setIfInBounds_toArray, List.set_cons_zero, List.set_cons_succ]
  have la := any_run lawK Try.underlying79 zeroS3 Pa.out.hm (keyI ht64)
  rw [Pa.out.heldD t] at la
  have ab := alloc_below xa (.cells #[.int .i64 c] 3)
  have lb := any_run lawK Try.underlying79 zeroS3 (Pa.out.below ab).hm (keyI ht64)
  rw [(Pa.out.below ab).heldD t] at lb
  obtain ⟨v, xc, hr, hO, hkc, hvb⟩ := run_held xa B (hldV D t) (idsD D t) (Pa.out.heldO t) c (by have := (Pa.out.idsL t).1; omega) (by omega)
  have lhv : ∀ g, (hldV D t).ownBlock = some g → lab g = 10 + t.toNat ∧ g < N := fun g hg => ⟨Pa.out.heldL hg, LH.out g hg⟩
  have dv : ∀ g, (hldV D t).ownBlock = some g → g ≠ hb ∧ g ≠ mn ∧ g ≠ mh := fun g hg => by have a0 := (lhv g hg).1; have a1 := Pa.out.l1; have a2 := Pa.out.l2; have a3 := Pa.out.l3; exact ⟨fun q => by rw [q] at a0; omega, fun q => by rw [q] at a0; omega, fun q => by rw [q] at a0; omega⟩
  have hmc := anyAt_keep Pa.out.hm hkc (fun q => (dv _ q).2.2 rfl)
  obtain ⟨xd, hu, hmd, hg⟩ := any_upd lawK Try.underlying79 hmc ((up_map Prod.fst).2 Pa.out.up) (keyI ht64) (by have := Pa.out.lenD; simp; omega) v
  have kcd : Keep (fun z => z = mh) xc xd := grown_m hg
  have kd : Keep (fun z => z = mh ∨ (hldV D t).ownBlock = some z) xa xd := (hkc.mono (T := fun z => z = mh ∨ (hldV D t).ownBlock = some z) (fun _ _ q => .inr q)).trans kcd (fun _ _ q => .inl q)
  have OWx := hide (hO.keep kcd (fun g hg q => by rcases hvb with r | ⟨g2, r, r2⟩; exact (dv g (by rw [← r]; exact hg)).2.2 q; rw [r] at hg; cases hg; omega))
  have lS : ∀ y, Keep (fun z => z = mh ∨ (hldV D t).ownBlock = some z) xa y → Cells y hb [rv, .map (some mn), .map (some mh)] ∧ Cells y N [.int .i64 t, .int .i64 c] := fun y k => ⟨Pa.out.box.keep k (by rintro (q | q); exact d2 q; exact (dv _ q).1 rfl), Ca.out.keep k (by rintro (q | q); omega; have := (lhv _ q).2; omega)⟩
  have s1 : Cells xa hb [rv, .map (some mn), .map (some mh)] ∧ Cells xa N [.int .i64 t, .int .i64 c] := ⟨Pa.out.box, Ca.out⟩
  have s2 : Cells (xa.alloc (.cells #[.int .i64 c] 3)) hb [rv, .map (some mn), .map (some mh)] ∧ Cells (xa.alloc (.cells #[.int .i64 c] 3)) N [.int .i64 t, .int .i64 c] := ⟨(Pa.out.below ab).box, Ca.out.below ab⟩
  have s3 := lS xc (hkc.mono (fun _ _ q => .inr q))
  have s4 := lS xd kd
  have nmd := Pa.out.nm.keep kd (by rintro (q | q); exact d3 q; exact (dv _ q).2.1 rfl)
  have H1 := hide la
  have H2 := hide lb
  have H3 := hide hr
  have H4 := hide hu
  clear la lb hr hu ab hO hkc hmc hg kcd
  refine wpAnyH_ready (rs := [12, 15]) (by kernel_rfl) (by simp) ?_
  refine AllReadyH.cons rfl (fun K hK => ?_) (AllReadyH.cons rfl (fun K hK => ?_) AllReadyH.nil)
  · refine wp_look 42 (.tmp 39) (.tmp 41) rfl rfl rfl rfl rfl H1.out ?_
    refine hK.out _ _ s1 (fun hS => ?_)
    clear hK K
    (try simp only [Act.put, List.setIfInBounds_toArray, List.set_cons_zero, List.set_cons_succ])
    refine wpAnyH_ready (rs := [15]) (by kernel_rfl) (by simp) ?_
    refine AllReadyH.cons rfl (fun K hK => ?_) AllReadyH.nil
    go_simp
    go_wp2_with fail
    refine hK.out _ _ s2 (fun hS => ?_)
    clear hK K
    (try simp only [Act.put, List.setIfInBounds_toArray, List.set_cons_zero, List.set_cons_succ])
    refine wpAnyH_ready (rs := [16]) (by kernel_rfl) (by simp) ?_
    refine AllReadyH.cons rfl (fun K hK => ?_) AllReadyH.nil
    refine wp_run 46 (.tmp 42) (.tmp 45) rfl rfl rfl rfl rfl H3.out ?_
    refine hK.out _ _ s3 (fun hS => ?_)
    clear hK K
    (try simp only [Act.put, List.setIfInBounds_toArray, List.set_cons_zero, List.set_cons_succ])
    refine wpAnyH_ready (rs := [17]) (by kernel_rfl) (by simp) ?_
    refine AllReadyH.cons rfl (fun K hK => ?_) AllReadyH.nil
    refine wp_upd (.tmp 33) (.tmp 35) (.tmp 46) rfl rfl rfl rfl rfl H4.out ?_
    refine hK.out _ _ s4 (fun hS => ?_)
    clear hK K
    (try simp only [Act.put, List.setIfInBounds_toArray, List.set_cons_zero, List.set_cons_succ])
    refine wpAnyH_done (by kernel_rfl) ?_ _
    have XB := hide s4.1
    have XC := hide s4.2
    have KA := hide kd
    have NMx := hide nmd
    have MHx := hide hmd
    have szd : N + 1 ≤ xd.heap.size := by have := kd.size; omega
    have VB := hide hvb
    have LV := hide lhv
    clear s1 s2 s3 s4 H1 H2 H3 H4 hS kd nmd hmd lS hvb lhv Ca
    go_upto_region 7 with fail
    refine wp_region_held_drew (S := fun wq => Cells wq hb [rv, .map (some mn), .map (some mh)] ∧ Cells wq N [.int .i64 t, .int .i64 c]) (by kernel_rfl) ⟨XB.out, XC.out⟩ (fun hS => ?_)
    have XB2 := hide (XB.out.below (Below.refl _ _).drew)
    have XC2 := hide (XC.out.below (Below.refl _ _).drew)
    have KA2 := hide KA.out.drew
    have NM2 := hide (NMx.out.below (Below.refl _ _).drew)
    have MH2 := hide (anyAt_below MHx.out (Below.refl _ _).drew)
    have OW2 := hide (OWx.out.below (Below.refl _ _).drew)
    clear MHx OWx
    have sz6 : N + 1 ≤ xd.drew.heap.size := szd
    clear XB XC KA NMx szd
    generalize xd.drew = x6 at *
    refine take_at 0 (some 47) (v := ?_) rfl rfl (by kernel_rfl) (by kernel_rfl) (by kernel_rfl) (fun _ _ _ h => h) ⟨by rfl, ?_⟩ hS ?_
    rotate_left
    · intro wq hSw; go_simp; try rfl
    simp only [Act.put, List.setIfInBounds_toArray, List.set_cons_zero, List.set_cons_succ]
    refine take_at 1 (some 48) (v := ?_) rfl rfl (by kernel_rfl) (by kernel_rfl) (by kernel_rfl) (fun _ _ _ h => h) ⟨by rfl, ?_⟩ hS ?_
    rotate_left
    · intro wq hSw; go_simp; try rfl
    simp only [Act.put, List.setIfInBounds_toArray, List.set_cons_zero, List.set_cons_succ]
    refine take_at 2 (some 49) (v := ?_) rfl rfl (by kernel_rfl) (by kernel_rfl) (by kernel_rfl) (fun _ _ _ h => h) ⟨by rfl, ?_⟩ hS ?_
    rotate_left
    · intro wq hSw; go_simp; try rfl
    simp only [Act.put, List.setIfInBounds_toArray, List.set_cons_zero, List.set_cons_succ]
    refine take_at 3 (some 50) (v := ?_) rfl rfl (by kernel_rfl) (by kernel_rfl) (by kernel_rfl) (fun _ _ _ h => h) ⟨by rfl, ?_⟩ hS ?_
    rotate_left
    · intro wq hSw; have q := (hSw.1.get 1 _ rfl).1; go_simp; try rfl
    simp only [Act.put, List.setIfInBounds_toArray, List.set_cons_zero, List.set_cons_succ]
    refine take_at 4 (some 51) (v := ?_) rfl rfl (by kernel_rfl) (by kernel_rfl) (by kernel_rfl) (fun _ _ _ h => h) ⟨by rfl, ?_⟩ hS ?_
    rotate_left
    · intro wq hSw; have q := loadKV hSw.2; have q1 := (hSw.2.get 0 _ rfl).1; have q2 := (hSw.2.get 1 _ rfl).1; go_simp; try rfl
    simp only [Act.put, List.setIfInBounds_toArray, List.set_cons_zero, List.set_cons_succ]
    refine take_at 5 (some 52) (v := ?_) rfl rfl (by kernel_rfl) (by kernel_rfl) (by kernel_rfl) (fun _ _ _ h => h) ⟨by rfl, ?_⟩ hS ?_
    rotate_left
    · intro wq hSw; go_simp; try rfl
    simp only [Act.put, List.setIfInBounds_toArray, List.set_cons_zero, List.set_cons_succ]
    obtain ⟨x7, hu7, nm7, hg7⟩ := NM2.out.put (by unfold maxLen; omega) ht64 hc64 (.int .i64 (netOf S t c + d))
    have k67 := grown_m hg7
    have HU7 := hide hu7
    have KK := hide k67
    clear hu7 hg7
    have s7 : Cells x7 hb [rv, .map (some mn), .map (some mh)] := XB2.out.keep k67 d1
    have s8 : Cells x7 N [.int .i64 t, .int .i64 c] := XC2.out.keep k67 (by omega)
    clear k67
    refine wpAnyH_ready (rs := [6]) (by kernel_rfl) (by simp) ?_
    refine AllReadyH.cons rfl (fun K hK => ?_) AllReadyH.nil
    refine wp_upd (.tmp 50) (.tmp 51) (.tmp 52) rfl rfl rfl rfl rfl HU7.out ?_
    refine hK.out _ _ ⟨s7, s8⟩ (fun hS => ?_)
    clear hK K hS s7 s8 HU7
    (try simp only [Act.put, List.setIfInBounds_toArray, List.set_cons_zero, List.set_cons_succ])
    refine wpAnyH_done (by kernel_rfl) ?_ _
    go_wp2_with fail
    go_ret
    have kk : Keep (fun z => z = mn ∨ z = mh ∨ (hldV D t).ownBlock = some z) xa x7 := (KA2.out.mono (T := fun z => z = mn ∨ z = mh ∨ (hldV D t).ownBlock = some z) (fun _ _ q => .inr q)).trans KK.out (fun _ _ q => .inl q)
    refine ⟨rfl, ⟨_, _, Pa.out.add_new (u := v) ht hc hv kk nm7 (anyAt_keep MH2.out KK.out (fun q => d3 q.symm)) (OW2.out.keep KK.out (fun g hg q => ?_)) VB.out⟩, ?_⟩
    · rcases VB.out with r | ⟨g2, r, r2⟩
      · exact (dv g (by rw [← r]; exact hg)).2.1 q
      · rw [r] at hg; cases hg; omega
    have e1 := Ba.out.mono hB
    refine e1.trans (kk.below (by have := e1.size; have := HN.out; omega) (fun z hz q => ?_))
    rcases q with q | q | q
    · have := Pa.out.low.2.1; omega
    · have := Pa.out.low.2.2; omega
    · have := (World.ownsRow.lt (Pa.out.heldO t) z q).1; omega
  · go_simp
    go_wp2_with fail
    refine hK.out _ _ s2 (fun hS => ?_)
    clear hK K
    (try simp only [Act.put, List.setIfInBounds_toArray, List.set_cons_zero, List.set_cons_succ])
    refine wpAnyH_ready (rs := [12]) (by kernel_rfl) (by simp) ?_
    refine AllReadyH.cons rfl (fun K hK => ?_) AllReadyH.nil
    refine wp_look 42 (.tmp 39) (.tmp 41) rfl rfl rfl rfl rfl H2.out ?_
    refine hK.out _ _ s2 (fun hS => ?_)
    clear hK K
    (try simp only [Act.put, List.setIfInBounds_toArray, List.set_cons_zero, List.set_cons_succ])
    refine wpAnyH_ready (rs := [16]) (by kernel_rfl) (by simp) ?_
    refine AllReadyH.cons rfl (fun K hK => ?_) AllReadyH.nil
    refine wp_run 46 (.tmp 42) (.tmp 45) rfl rfl rfl rfl rfl H3.out ?_
    refine hK.out _ _ s3 (fun hS => ?_)
    clear hK K
    (try simp only [Act.put, List.setIfInBounds_toArray, List.set_cons_zero, List.set_cons_succ])
    refine wpAnyH_ready (rs := [17]) (by kernel_rfl) (by simp) ?_
    refine AllReadyH.cons rfl (fun K hK => ?_) AllReadyH.nil
    refine wp_upd (.tmp 33) (.tmp 35) (.tmp 46) rfl rfl rfl rfl rfl H4.out ?_
    refine hK.out _ _ s4 (fun hS => ?_)
    clear hK K
    (try simp only [Act.put, List.setIfInBounds_toArray, List.set_cons_zero, List.set_cons_succ])
    refine wpAnyH_done (by kernel_rfl) ?_ _
    have XB := hide s4.1
    have XC := hide s4.2
    have KA := hide kd
    have NMx := hide nmd
    have MHx := hide hmd
    have szd : N + 1 ≤ xd.heap.size := by have := kd.size; omega
    have VB := hide hvb
    have LV := hide lhv
    clear s1 s2 s3 s4 H1 H2 H3 H4 hS kd nmd hmd lS hvb lhv Ca
    go_upto_region 7 with fail
    refine wp_region_held_drew (S := fun wq => Cells wq hb [rv, .map (some mn), .map (some mh)] ∧ Cells wq N [.int .i64 t, .int .i64 c]) (by kernel_rfl) ⟨XB.out, XC.out⟩ (fun hS => ?_)
    have XB2 := hide (XB.out.below (Below.refl _ _).drew)
    have XC2 := hide (XC.out.below (Below.refl _ _).drew)
    have KA2 := hide KA.out.drew
    have NM2 := hide (NMx.out.below (Below.refl _ _).drew)
    have MH2 := hide (anyAt_below MHx.out (Below.refl _ _).drew)
    have OW2 := hide (OWx.out.below (Below.refl _ _).drew)
    clear MHx OWx
    have sz6 : N + 1 ≤ xd.drew.heap.size := szd
    clear XB XC KA NMx szd
    generalize xd.drew = x6 at *
    refine take_at 0 (some 47) (v := ?_) rfl rfl (by kernel_rfl) (by kernel_rfl) (by kernel_rfl) (fun _ _ _ h => h) ⟨by rfl, ?_⟩ hS ?_
    rotate_left
    · intro wq hSw; go_simp; try rfl
    simp only [Act.put, List.setIfInBounds_toArray, List.set_cons_zero, List.set_cons_succ]
    refine take_at 1 (some 48) (v := ?_) rfl rfl (by kernel_rfl) (by kernel_rfl) (by kernel_rfl) (fun _ _ _ h => h) ⟨by rfl, ?_⟩ hS ?_
    rotate_left
    · intro wq hSw; go_simp; try rfl
    simp only [Act.put, List.setIfInBounds_toArray, List.set_cons_zero, List.set_cons_succ]
    refine take_at 2 (some 49) (v := ?_) rfl rfl (by kernel_rfl) (by kernel_rfl) (by kernel_rfl) (fun _ _ _ h => h) ⟨by rfl, ?_⟩ hS ?_
    rotate_left
    · intro wq hSw; go_simp; try rfl
    simp only [Act.put, List.setIfInBounds_toArray, List.set_cons_zero, List.set_cons_succ]
    refine take_at 3 (some 50) (v := ?_) rfl rfl (by kernel_rfl) (by kernel_rfl) (by kernel_rfl) (fun _ _ _ h => h) ⟨by rfl, ?_⟩ hS ?_
    rotate_left
    · intro wq hSw; have q := (hSw.1.get 1 _ rfl).1; go_simp; try rfl
    simp only [Act.put, List.setIfInBounds_toArray, List.set_cons_zero, List.set_cons_succ]
    refine take_at 4 (some 51) (v := ?_) rfl rfl (by kernel_rfl) (by kernel_rfl) (by kernel_rfl) (fun _ _ _ h => h) ⟨by rfl, ?_⟩ hS ?_
    rotate_left
    · intro wq hSw; have q := loadKV hSw.2; have q1 := (hSw.2.get 0 _ rfl).1; have q2 := (hSw.2.get 1 _ rfl).1; go_simp; try rfl
    simp only [Act.put, List.setIfInBounds_toArray, List.set_cons_zero, List.set_cons_succ]
    refine take_at 5 (some 52) (v := ?_) rfl rfl (by kernel_rfl) (by kernel_rfl) (by kernel_rfl) (fun _ _ _ h => h) ⟨by rfl, ?_⟩ hS ?_
    rotate_left
    · intro wq hSw; go_simp; try rfl
    simp only [Act.put, List.setIfInBounds_toArray, List.set_cons_zero, List.set_cons_succ]
    obtain ⟨x7, hu7, nm7, hg7⟩ := NM2.out.put (by unfold maxLen; omega) ht64 hc64 (.int .i64 (netOf S t c + d))
    have k67 := grown_m hg7
    have HU7 := hide hu7
    have KK := hide k67
    clear hu7 hg7
    have s7 : Cells x7 hb [rv, .map (some mn), .map (some mh)] := XB2.out.keep k67 d1
    have s8 : Cells x7 N [.int .i64 t, .int .i64 c] := XC2.out.keep k67 (by omega)
    clear k67
    refine wpAnyH_ready (rs := [6]) (by kernel_rfl) (by simp) ?_
    refine AllReadyH.cons rfl (fun K hK => ?_) AllReadyH.nil
    refine wp_upd (.tmp 50) (.tmp 51) (.tmp 52) rfl rfl rfl rfl rfl HU7.out ?_
    refine hK.out _ _ ⟨s7, s8⟩ (fun hS => ?_)
    clear hK K hS s7 s8 HU7
    (try simp only [Act.put, List.setIfInBounds_toArray, List.set_cons_zero, List.set_cons_succ])
    refine wpAnyH_done (by kernel_rfl) ?_ _
    go_wp2_with fail
    go_ret
    have kk : Keep (fun z => z = mn ∨ z = mh ∨ (hldV D t).ownBlock = some z) xa x7 := (KA2.out.mono (T := fun z => z = mn ∨ z = mh ∨ (hldV D t).ownBlock = some z) (fun _ _ q => .inr q)).trans KK.out (fun _ _ q => .inl q)
    refine ⟨rfl, ⟨_, _, Pa.out.add_new (u := v) ht hc hv kk nm7 (anyAt_keep MH2.out KK.out (fun q => d3 q.symm)) (OW2.out.keep KK.out (fun g hg q => ?_)) VB.out⟩, ?_⟩
    · rcases VB.out with r | ⟨g2, r, r2⟩
      · exact (dv g (by rw [← r]; exact hg)).2.1 q
      · rw [r] at hg; cases hg; omega
    have e1 := Ba.out.mono hB
    refine e1.trans (kk.below (by have := e1.size; have := HN.out; omega) (fun z hz q => ?_))
    rcases q with q | q | q
    · have := Pa.out.low.2.1; omega
    · have := Pa.out.low.2.2; omega
    · have := (World.ownsRow.lt (Pa.out.heldO t) z q).1; omega
end Go.Proofs.Ytlloppalagddnaa
