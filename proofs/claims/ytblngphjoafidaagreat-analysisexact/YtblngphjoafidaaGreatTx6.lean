import Derived.Test.YtblngphjoafidaaGreatTx5
import Derived.Laws.EntriesVeiled
namespace Go.Proofs.YtblngphjoafidaaGreat
open Go.RowKit Go.QK Go.Maps Go.QM Go.QT
set_option maxRecDepth 100000
theorem note_pass {t : TbM} {lsn k tx prev : Int} (hl : isLsn lsn = true) (h1 : 3 ≤ k) (h2 : k ≤ 7) : t.noteE lsn k tx prev = t.chainE lsn k tx prev := by
  unfold TbM.noteE
  rw [if_pos hl, if_neg (by omega), if_neg (by omega), if_neg (by omega)]
theorem note_stay {t : TbM} {lsn k tx prev : Int} (h : t.noteE lsn k tx prev ≠ 0) : t.noteT lsn k tx prev = t := if_neg h
theorem note_go {t : TbM} {lsn k tx prev : Int} (h : t.noteE lsn k tx prev = 0) : t.noteT lsn k tx prev = t.went lsn k tx := if_pos h
theorem chain_some {t : TbM} {lsn k tx prev : Int} (h : t.chainE lsn k tx prev = 0) : ∃ x, getT t.L tx = some x ∧ fitsK k x = true ∧ x.tx = tx := by
  unfold TbM.chainE at h
  cases hg : getT t.L tx with
  | none => rw [hg] at h; cases h
  | some x =>
    rw [hg] at h
    simp only at h
    refine ⟨x, rfl, ?_, (getT_mem hg).2⟩
    split at h
    · cases hf : fitsK k x with
      | true => rfl
      | false => rw [hf] at h; cases h
    · cases h
theorem went_chain {t : TbM} {lsn k tx : Int} {x : Lv} (hg : getT t.L tx = some x) (h1 : 3 ≤ k) (h2 : k ≤ 6) : t.went lsn k tx = ⟨setT t.L (gone k lsn x), t.next⟩ := by
  unfold TbM.went
  rw [if_neg (by omega), if_neg (by omega), if_neg (by omega), hg]
theorem size91 : (Tryz.prog.info? 103).map (·.size) = some 2 := by kernel_rfl
theorem wp_store91 {o : Oper} {a : Act} {x : World} {K : Act → World → Prop} {Q : Exit → Act → World → Prop} {cond : Bool} {b : Nat} {cs : Array Value} {u v : Value} (p y : Operand) (hc : cond = true) (hd : o.dst = none)
    (ho : o.op = .store 103 p y) (hp : a.eval p = .pointer (some ⟨b, 0, none⟩)) (hy : a.eval y = .agg #[u, v]) (hb : RBox x b 103 cs) (hs : cs.size = 2) (h1 : #[u, v].toList.all (·.oneCell') = true)
    (h : ∀ x', Cells x' b [u, v] → Keep (fun k => k = b) x x' → K (a.put none undef) x') : if cond = true then Oper.wp Tryz.prog o a x K Q else K (a.put o.dst undef) x := by
  rw [if_pos hc]
  have hrun := run_storeVar_row (P := Tryz.prog) x b 103 103 cs #[u, v] hb size91 (by rw [hs]; rfl) (by rw [← Array.all_toList]; exact h1)
  unfold Oper.wp execOp
  simp only [ho, hp, hy, Instr.storeAt, Instr.sureAddr, Sem.run_bind, Sem.run_pure, Result.andThen_ok, hrun]
  have := h _ (RBox.setRow hb #[u, v]).cells (keep_setRow _ _ _)
  rw [← hd] at this
  exact this
def NotePost (b m : Nat) (t : TbM) (lsn k tx prev : Int) (w : World) (e : Ending) (w' : World) : Prop := e = .returned (.int .i64 (t.noteE lsn k tx prev)) ∧ PT w' b m (t.noteT lsn k tx prev) ∧ Keep (fun z => z = b ∨ z = m) w w'
set_option maxHeartbeats 4000000 in
theorem note_place (b m : Nat) (t : TbM) (rc : Array Value) (lsn k tx prev : Int) (w : World) (h : PT w b m t) (hr : RecA rc lsn k tx prev) (hl : isLsn lsn = false) : Calls Tryz.prog 30 #[ptr b, .agg rc] w (NotePost b m t lsn k tx prev w) := by
  unfold NotePost
  have KL := fun w => mayLsn_any lsn w
  have e1 : t.noteE lsn k tx prev = 4 := by unfold TbM.noteE; rw [hl]; rfl
  rw [note_stay (by rw [e1]; decide), e1]
  rw [hl] at KL
  have y0 := (hr.box (RBox.new w rc 55)).1
  have HP := hide h
  clear h hr hl e1
  go_enter Tryz.func30, Tryz.ntmps30
  go_wp2_with (go_at_call 45; refine (KL _).mono ?_; rintro e wz ⟨rfl, rfl⟩)
  go_ret
  exact ⟨rfl, HP.out.below (alloc_below _ _), Keep.of_below (alloc_below _ _)⟩
set_option maxHeartbeats 4000000 in
theorem note_kind (b m : Nat) (t : TbM) (rc : Array Value) (lsn k tx prev : Int) (w : World) (h : PT w b m t) (hr : RecA rc lsn k tx prev) (hl : isLsn lsn = true) (hk : k < 1 ∨ 8 < k) : Calls Tryz.prog 30 #[ptr b, .agg rc] w (NotePost b m t lsn k tx prev w) := by
  unfold NotePost
  have KL := fun w => mayLsn_any lsn w
  have e1 : t.noteE lsn k tx prev = 70 := by unfold TbM.noteE; rw [hl, if_pos rfl, if_pos hk]
  rw [note_stay (by rw [e1]; decide), e1]
  rw [hl] at KL
  obtain ⟨y0, y1, -, -⟩ := (hr.box (RBox.new w rc 55))
  have HP := hide h
  clear h hr hl e1
  by_cases q : k < 1
  · have d1 : decide (k < 1) = true := by simpa using q
    clear hk
    go_enter Tryz.func30, Tryz.ntmps30
    go_wp2_with (go_at_call 45; refine (KL _).mono ?_; rintro e wz ⟨rfl, rfl⟩)
    go_ret
    exact ⟨rfl, HP.out.below (alloc_below _ _), Keep.of_below (alloc_below _ _)⟩
  · have d1 : decide (k < 1) = false := by simpa using q
    have d2 : decide (8 < k) = true := by simp; omega
    clear hk
    go_enter Tryz.func30, Tryz.ntmps30
    go_wp2_with (go_at_call 45; refine (KL _).mono ?_; rintro e wz ⟨rfl, rfl⟩)
    go_ret
    exact ⟨rfl, HP.out.below (alloc_below _ _), Keep.of_below (alloc_below _ _)⟩
set_option maxHeartbeats 4000000 in
theorem note1 (b m : Nat) (t : TbM) (rc : Array Value) (lsn k tx prev : Int) (w : World) (h : PT w b m t) (hr : RecA rc lsn k tx prev) (hl : isLsn lsn = true) (hk : k = 1) : Calls Tryz.prog 30 #[ptr b, .agg rc] w (NotePost b m t lsn k tx prev w) := by
  unfold NotePost
  have KL := fun w => mayLsn_any lsn w
  subst hk
  rw [hl] at KL
  have eN : t.noteE lsn 1 tx prev = t.nextE tx := by unfold TbM.noteE; rw [hl]; rfl
  have HZ := hide (show t.nextE tx = 0 → t.full = false ∧ t.noteT lsn 1 tx prev = t.begun lsn from fun q => by
    refine ⟨?_, by rw [note_go (by rw [eN]; exact q)]; rfl⟩
    unfold TbM.nextE at q
    cases hf : t.full with
    | false => rfl
    | true => rw [hf] at q; split at q <;> simp at q)
  have HS := hide (show t.nextE tx ≠ 0 → t.noteT lsn 1 tx prev = t from fun q => note_stay (by rw [eN]; exact q))
  have KC := fun w' (h : PT w' b m t) => unlessNext_any b m t rc lsn 1 tx prev w' h hr
  have KG := fun w' (h : PT w' b m t) (hf : t.full = false) => begins_any b m t rc lsn 1 tx prev w' h hr hl hf
  rw [eN]
  clear eN
  generalize t.nextE tx = E at *
  generalize t.noteT lsn 1 tx prev = T' at *
  obtain ⟨y0, y1, -, -⟩ := (hr.box (RBox.new w rc 55))
  have HLS := hide hl
  have HA := hide hr
  have HP0 := hide h
  clear h hr hl
  go_enter Tryz.func30, Tryz.ntmps30
  go_upto_region 5 with (go_at_call 45; refine (KL _).mono ?_; rintro e wz ⟨rfl, rfl⟩)
  refine named (P := Code.wp _ _ _ _) ?_
  intro w1 hw1
  obtain ⟨rb, hrb⟩ : ∃ rb, rb = w.heap.size := ⟨_, rfl⟩
  have HP := hide (show PT w1 b m t by rw [hw1]; exact HP0.out.below (alloc_below _ _))
  have HX := hide (show RBox w1 rb 55 rc by rw [hw1, hrb]; exact RBox.new _ _ _)
  have HB := hide (show Below w.heap.size w w1 by rw [hw1]; exact alloc_below _ _)
  rw [← hrb]
  clear hw1 hrb HP0 y0 y1
  go_cut [5] (fun v w' => ∃ B, v = ptr B ∧ Cells w' B [fv 61, fv 62] ∧ Below w1.heap.size w1 w')
  case first =>
    refine wp_region_held_drew (S := fun wq => Below w1.heap.size w1 wq) (by kernel_rfl) (Below.refl _ _).drew (fun hS => ?_)
    refine take_at 1 (some 20) (v := ?_) rfl rfl (by kernel_rfl) (by kernel_rfl) (by kernel_rfl) (fun _ _ _ h => h) ⟨by rfl, ?_⟩ hS ?_
    rotate_left
    · intro wq hSw; go_simp; try rfl
    simp only [Act.put, List.setIfInBounds_toArray, List.set_cons_zero, List.set_cons_succ]
    refine take_at 2 (some 21) (v := ?_) rfl rfl (by kernel_rfl) (by kernel_rfl) (by kernel_rfl) (fun _ _ _ h => h) ⟨by rfl, ?_⟩ hS ?_
    rotate_left
    · intro wq hSw; have q := (HA.out.box (HX.out.below hSw)).2.1; go_simp; try rfl
    simp only [Act.put, List.setIfInBounds_toArray, List.set_cons_zero, List.set_cons_succ]
    have D1 := hide hS
    clear hS
    generalize w1.drew = x1 at *
    refine wpAnyH_ready (rs := [0, 4]) (by kernel_rfl) (by simp) ?_
    refine AllReadyH.cons rfl (fun K hK => ?_) (AllReadyH.cons rfl (fun K hK => ?_) AllReadyH.nil)
    · go_simp
      go_wp2_with fail
      refine (rules_any _).mono ?_
      rintro e x2 ⟨a3, a4, a5, a6, a7, rfl, c3, c4, c5, c6, c7, hb⟩
      have FB := hide True.intro
      have LO := hide (show w1.heap.size ≤ x2.heap.size from Nat.le_trans D1.out.size hb.size)
      have D2 := hide (D1.out.trans (hb.mono D1.out.size))
      clear c3 c4 c5 c6 c7 hb
      go_wp2_with fail
      refine hK.out _ _ D2.out (fun hS => ?_)
      clear hK K D1
      (try simp only [Act.put, List.setIfInBounds_toArray, List.set_cons_zero, List.set_cons_succ])
      refine take_at 3 (some 22) (v := ?_) rfl rfl (by kernel_rfl) (by kernel_rfl) (by kernel_rfl) (fun _ _ _ h => h) ⟨by rfl, ?_⟩ hS ?_
      rotate_left
      · intro wq hSw; go_simp; try rfl
      simp only [Act.put, List.setIfInBounds_toArray, List.set_cons_zero, List.set_cons_succ]
      clear hS
      refine wpAnyH_ready (rs := [4]) (by kernel_rfl) (by simp) ?_
      refine AllReadyH.cons rfl (fun K hK => ?_) AllReadyH.nil
      go_simp
      go_wp2_with fail
      refine hK.out _ _ (D2.out.alloc D2.out.size _) (fun hS => ?_)
      clear hK K hS
      (try simp only [Act.put, List.setIfInBounds_toArray, List.set_cons_zero, List.set_cons_succ])
      refine wpAnyH_ready (rs := [5]) (by kernel_rfl) (by simp) ?_
      refine AllReadyH.cons rfl (fun K hK => ?_) AllReadyH.nil
      refine wp_store91 (.tmp 5) (.tmp 22) rfl rfl rfl rfl rfl (RBox.new x2 #[.nilFunc, .nilFunc] 103) rfl rfl ?_
      intro x3 c3 k3
      have C3 := hide c3
      have K3 := hide k3
      have B3 := hide (show Below w1.heap.size w1 x3 from (D2.out.alloc D2.out.size _).trans (k3.below (Nat.le_trans D2.out.size (by simp)) (fun z hz q => by have := LO.out; omega)))
      clear c3 k3
      refine hK.out _ _ B3.out (fun hS => ?_)
      clear hK K hS
      (try simp only [Act.put])
      refine wpAnyH_done (by kernel_rfl) ?_ _
      go_wp2_with fail
      go_meet
      exact ⟨_, rfl, C3.out, B3.out⟩
    · go_simp
      go_wp2_with fail
      refine hK.out _ _ (D1.out.alloc D1.out.size _) (fun hS => ?_)
      clear hK K hS
      (try simp only [Act.put, List.setIfInBounds_toArray, List.set_cons_zero, List.set_cons_succ])
      have TB := hide (RBox.new x1 #[.nilFunc, .nilFunc] 103)
      have LO := hide (show w1.heap.size ≤ x1.heap.size from D1.out.size)
      have D1b := hide (D1.out.alloc D1.out.size (.cells #[.nilFunc, .nilFunc] 103))
      clear D1
      generalize x1.heap.size = tb at *
      refine wpAnyH_ready (rs := [0]) (by kernel_rfl) (by simp) ?_
      refine AllReadyH.cons rfl (fun K hK => ?_) AllReadyH.nil
      go_simp
      go_wp2_with fail
      refine (rules_any _).mono ?_
      rintro e x2 ⟨a3, a4, a5, a6, a7, rfl, c3, c4, c5, c6, c7, hb⟩
      have FB := hide True.intro
      have D2 := hide (D1b.out.trans (hb.mono D1b.out.size))
      have T2 := hide (TB.out.below hb)
      clear c3 c4 c5 c6 c7 hb
      go_wp2_with fail
      refine hK.out _ _ D2.out (fun hS => ?_)
      clear hK K D1b TB
      (try simp only [Act.put, List.setIfInBounds_toArray, List.set_cons_zero, List.set_cons_succ])
      refine take_at 3 (some 22) (v := ?_) rfl rfl (by kernel_rfl) (by kernel_rfl) (by kernel_rfl) (fun _ _ _ h => h) ⟨by rfl, ?_⟩ hS ?_
      rotate_left
      · intro wq hSw; go_simp; try rfl
      simp only [Act.put, List.setIfInBounds_toArray, List.set_cons_zero, List.set_cons_succ]
      clear hS
      refine wpAnyH_ready (rs := [5]) (by kernel_rfl) (by simp) ?_
      refine AllReadyH.cons rfl (fun K hK => ?_) AllReadyH.nil
      refine wp_store91 (.tmp 5) (.tmp 22) rfl rfl rfl rfl rfl T2.out rfl rfl ?_
      intro x3 c3 k3
      have C3 := hide c3
      have K3 := hide k3
      have B3 := hide (show Below w1.heap.size w1 x3 from (D2.out).trans (k3.below (Nat.le_trans D2.out.size (Nat.le_refl _)) (fun z hz q => by have := LO.out; omega)))
      clear c3 k3
      refine hK.out _ _ B3.out (fun hS => ?_)
      clear hK K hS
      (try simp only [Act.put])
      refine wpAnyH_done (by kernel_rfl) ?_ _
      go_wp2_with fail
      go_meet
      exact ⟨_, rfl, C3.out, B3.out⟩
  case rest =>
    obtain ⟨B, rfl, cB, hb⟩ := hcut
    have HP2 := hide (HP.out.below hb)
    have HX2 := hide (HX.out.below hb)
    have HB2 := hide (HB.out.trans (hb.mono HB.out.size))
    have CB := hide cB
    obtain ⟨b0, -⟩ := cB.get 0 _ rfl
    clear cB hb HP HX HB
    go_wp2_with (refine wpList_load51 HX2.out HA.out.sz rfl ?_)
    refine (KC _ HP2.out).mono ?_
    rintro e w3 ⟨rfl, hb3⟩
    have HP3 := hide (HP2.out.below hb3)
    have HX3 := hide (HX2.out.below hb3)
    have HB3 := hide (HB2.out.trans (hb3.mono HB2.out.size))
    obtain ⟨b1, -⟩ := (CB.out.below hb3).get 1 _ rfl
    clear hb3 HP2 HX2 HB2 CB b0 KC
    by_cases hz : E = 0
    · have d : (E != 0) = false := by simpa using hz
      have HE := hide hz
      clear hz
      obtain ⟨hf, hT⟩ := HZ.out HE.out
      have HT := hide hT
      have K2 := KG _ HP3.out hf
      clear KG HZ hT hf
      go_wp2_with (refine wpList_load51 HX3.out HA.out.sz rfl ?_)
      refine K2.mono ?_
      rintro e w4 ⟨rfl, p4, k4⟩
      have P4 := hide p4
      have K4 := hide k4
      clear p4 k4 K2
      go_wp2_with fail
      go_ret
      exact ⟨by rw [HE.out]; rfl, by rw [HT.out]; exact P4.out, (Keep.of_below HB3.out).trans K4.out (fun _ _ q => q)⟩
    · have d : (E != 0) = true := by simpa using hz
      have HT := hide (HS.out hz)
      clear hz KG
      go_wp2_with fail
      go_ret
      exact ⟨rfl, by rw [HT.out]; exact HP3.out, Keep.of_below HB3.out⟩
set_option maxHeartbeats 4000000 in
theorem note2 (b m : Nat) (t : TbM) (rc : Array Value) (lsn k tx prev : Int) (w : World) (h : PT w b m t) (hr : RecA rc lsn k tx prev) (hl : isLsn lsn = true) (hk : k = 2) : Calls Tryz.prog 30 #[ptr b, .agg rc] w (NotePost b m t lsn k tx prev w) := by
  unfold NotePost
  have KL := fun w => mayLsn_any lsn w
  subst hk
  rw [hl] at KL
  have eN : t.noteE lsn 2 tx prev = 0 := by unfold TbM.noteE; rw [hl]; rfl
  have eT : t.noteT lsn 2 tx prev = t := by rw [note_go eN]; rfl
  rw [eN, eT]
  clear eN eT
  obtain ⟨y0, y1, -, -⟩ := (hr.box (RBox.new w rc 55))
  have HLS := hide hl
  have HA := hide hr
  have HP0 := hide h
  clear h hr hl
  go_enter Tryz.func30, Tryz.ntmps30
  go_upto_region 5 with (go_at_call 45; refine (KL _).mono ?_; rintro e wz ⟨rfl, rfl⟩)
  refine named (P := Code.wp _ _ _ _) ?_
  intro w1 hw1
  obtain ⟨rb, hrb⟩ : ∃ rb, rb = w.heap.size := ⟨_, rfl⟩
  have HP := hide (show PT w1 b m t by rw [hw1]; exact HP0.out.below (alloc_below _ _))
  have HX := hide (show RBox w1 rb 55 rc by rw [hw1, hrb]; exact RBox.new _ _ _)
  have HB := hide (show Below w.heap.size w w1 by rw [hw1]; exact alloc_below _ _)
  rw [← hrb]
  clear hw1 hrb HP0 y0 y1
  go_cut [5] (fun v w' => ∃ B, v = ptr B ∧ Cells w' B [fv 63, fv 64] ∧ Below w1.heap.size w1 w')
  case first =>
    refine wp_region_held_drew (S := fun wq => Below w1.heap.size w1 wq) (by kernel_rfl) (Below.refl _ _).drew (fun hS => ?_)
    refine take_at 1 (some 20) (v := ?_) rfl rfl (by kernel_rfl) (by kernel_rfl) (by kernel_rfl) (fun _ _ _ h => h) ⟨by rfl, ?_⟩ hS ?_
    rotate_left
    · intro wq hSw; go_simp; try rfl
    simp only [Act.put, List.setIfInBounds_toArray, List.set_cons_zero, List.set_cons_succ]
    refine take_at 2 (some 21) (v := ?_) rfl rfl (by kernel_rfl) (by kernel_rfl) (by kernel_rfl) (fun _ _ _ h => h) ⟨by rfl, ?_⟩ hS ?_
    rotate_left
    · intro wq hSw; have q := (HA.out.box (HX.out.below hSw)).2.1; go_simp; try rfl
    simp only [Act.put, List.setIfInBounds_toArray, List.set_cons_zero, List.set_cons_succ]
    have D1 := hide hS
    clear hS
    generalize w1.drew = x1 at *
    refine wpAnyH_ready (rs := [0, 4]) (by kernel_rfl) (by simp) ?_
    refine AllReadyH.cons rfl (fun K hK => ?_) (AllReadyH.cons rfl (fun K hK => ?_) AllReadyH.nil)
    · go_simp
      go_wp2_with fail
      refine (rules_any _).mono ?_
      rintro e x2 ⟨a3, a4, a5, a6, a7, rfl, c3, c4, c5, c6, c7, hb⟩
      have FB := hide True.intro
      have LO := hide (show w1.heap.size ≤ x2.heap.size from Nat.le_trans D1.out.size hb.size)
      have D2 := hide (D1.out.trans (hb.mono D1.out.size))
      clear c3 c4 c5 c6 c7 hb
      go_wp2_with fail
      refine hK.out _ _ D2.out (fun hS => ?_)
      clear hK K D1
      (try simp only [Act.put, List.setIfInBounds_toArray, List.set_cons_zero, List.set_cons_succ])
      refine take_at 3 (some 22) (v := ?_) rfl rfl (by kernel_rfl) (by kernel_rfl) (by kernel_rfl) (fun _ _ _ h => h) ⟨by rfl, ?_⟩ hS ?_
      rotate_left
      · intro wq hSw; go_simp; try rfl
      simp only [Act.put, List.setIfInBounds_toArray, List.set_cons_zero, List.set_cons_succ]
      clear hS
      refine wpAnyH_ready (rs := [4]) (by kernel_rfl) (by simp) ?_
      refine AllReadyH.cons rfl (fun K hK => ?_) AllReadyH.nil
      go_simp
      go_wp2_with fail
      refine hK.out _ _ (D2.out.alloc D2.out.size _) (fun hS => ?_)
      clear hK K hS
      (try simp only [Act.put, List.setIfInBounds_toArray, List.set_cons_zero, List.set_cons_succ])
      refine wpAnyH_ready (rs := [5]) (by kernel_rfl) (by simp) ?_
      refine AllReadyH.cons rfl (fun K hK => ?_) AllReadyH.nil
      refine wp_store91 (.tmp 5) (.tmp 22) rfl rfl rfl rfl rfl (RBox.new x2 #[.nilFunc, .nilFunc] 103) rfl rfl ?_
      intro x3 c3 k3
      have C3 := hide c3
      have K3 := hide k3
      have B3 := hide (show Below w1.heap.size w1 x3 from (D2.out.alloc D2.out.size _).trans (k3.below (Nat.le_trans D2.out.size (by simp)) (fun z hz q => by have := LO.out; omega)))
      clear c3 k3
      refine hK.out _ _ B3.out (fun hS => ?_)
      clear hK K hS
      (try simp only [Act.put])
      refine wpAnyH_done (by kernel_rfl) ?_ _
      go_wp2_with fail
      go_meet
      exact ⟨_, rfl, C3.out, B3.out⟩
    · go_simp
      go_wp2_with fail
      refine hK.out _ _ (D1.out.alloc D1.out.size _) (fun hS => ?_)
      clear hK K hS
      (try simp only [Act.put, List.setIfInBounds_toArray, List.set_cons_zero, List.set_cons_succ])
      have TB := hide (RBox.new x1 #[.nilFunc, .nilFunc] 103)
      have LO := hide (show w1.heap.size ≤ x1.heap.size from D1.out.size)
      have D1b := hide (D1.out.alloc D1.out.size (.cells #[.nilFunc, .nilFunc] 103))
      clear D1
      generalize x1.heap.size = tb at *
      refine wpAnyH_ready (rs := [0]) (by kernel_rfl) (by simp) ?_
      refine AllReadyH.cons rfl (fun K hK => ?_) AllReadyH.nil
      go_simp
      go_wp2_with fail
      refine (rules_any _).mono ?_
      rintro e x2 ⟨a3, a4, a5, a6, a7, rfl, c3, c4, c5, c6, c7, hb⟩
      have FB := hide True.intro
      have D2 := hide (D1b.out.trans (hb.mono D1b.out.size))
      have T2 := hide (TB.out.below hb)
      clear c3 c4 c5 c6 c7 hb
      go_wp2_with fail
      refine hK.out _ _ D2.out (fun hS => ?_)
      clear hK K D1b TB
      (try simp only [Act.put, List.setIfInBounds_toArray, List.set_cons_zero, List.set_cons_succ])
      refine take_at 3 (some 22) (v := ?_) rfl rfl (by kernel_rfl) (by kernel_rfl) (by kernel_rfl) (fun _ _ _ h => h) ⟨by rfl, ?_⟩ hS ?_
      rotate_left
      · intro wq hSw; go_simp; try rfl
      simp only [Act.put, List.setIfInBounds_toArray, List.set_cons_zero, List.set_cons_succ]
      clear hS
      refine wpAnyH_ready (rs := [5]) (by kernel_rfl) (by simp) ?_
      refine AllReadyH.cons rfl (fun K hK => ?_) AllReadyH.nil
      refine wp_store91 (.tmp 5) (.tmp 22) rfl rfl rfl rfl rfl T2.out rfl rfl ?_
      intro x3 c3 k3
      have C3 := hide c3
      have K3 := hide k3
      have B3 := hide (show Below w1.heap.size w1 x3 from (D2.out).trans (k3.below (Nat.le_trans D2.out.size (Nat.le_refl _)) (fun z hz q => by have := LO.out; omega)))
      clear c3 k3
      refine hK.out _ _ B3.out (fun hS => ?_)
      clear hK K hS
      (try simp only [Act.put])
      refine wpAnyH_done (by kernel_rfl) ?_ _
      go_wp2_with fail
      go_meet
      exact ⟨_, rfl, C3.out, B3.out⟩
  case rest =>
    obtain ⟨B, rfl, cB, hb⟩ := hcut
    have HP2 := hide (HP.out.below hb)
    have HX2 := hide (HX.out.below hb)
    have HB2 := hide (HB.out.trans (hb.mono HB.out.size))
    have CB := hide cB
    obtain ⟨b0, -⟩ := cB.get 0 _ rfl
    clear cB hb HP HX HB
    go_wp2_with (refine wpList_load51 HX2.out HA.out.sz rfl ?_)
    refine (never_any _ rc _).mono ?_
    rintro e w3 ⟨rfl, hb3⟩
    have HP3 := hide (HP2.out.below hb3)
    have HX3 := hide (HX2.out.below hb3)
    have HB3 := hide (HB2.out.trans (hb3.mono HB2.out.size))
    obtain ⟨b1, -⟩ := (CB.out.below hb3).get 1 _ rfl
    clear hb3 HP2 HX2 HB2 CB b0
    go_wp2_with (refine wpList_load51 HX3.out HA.out.sz rfl ?_)
    refine (nothing_any _ rc _).mono ?_
    rintro e w4 ⟨rfl, hb4⟩
    have HP4 := hide (HP3.out.below hb4)
    have HB4 := hide (HB3.out.trans (hb4.mono HB3.out.size))
    clear hb4
    go_wp2_with fail
    go_ret
    exact ⟨rfl, HP4.out, Keep.of_below HB4.out⟩
set_option maxHeartbeats 4000000 in
theorem note8 (b m : Nat) (t : TbM) (rc : Array Value) (lsn k tx prev : Int) (w : World) (h : PT w b m t) (hr : RecA rc lsn k tx prev) (hl : isLsn lsn = true) (hk : k = 8) : Calls Tryz.prog 30 #[ptr b, .agg rc] w (NotePost b m t lsn k tx prev w) := by
  unfold NotePost
  have KL := fun w => mayLsn_any lsn w
  subst hk
  rw [hl] at KL
  have eN : t.noteE lsn 8 tx prev = 0 := by unfold TbM.noteE; rw [hl]; rfl
  have eT : t.noteT lsn 8 tx prev = t := by rw [note_go eN]; rfl
  rw [eN, eT]
  clear eN eT
  obtain ⟨y0, y1, -, -⟩ := (hr.box (RBox.new w rc 55))
  have HLS := hide hl
  have HA := hide hr
  have HP0 := hide h
  clear h hr hl
  go_enter Tryz.func30, Tryz.ntmps30
  go_upto_region 5 with (go_at_call 45; refine (KL _).mono ?_; rintro e wz ⟨rfl, rfl⟩)
  refine named (P := Code.wp _ _ _ _) ?_
  intro w1 hw1
  obtain ⟨rb, hrb⟩ : ∃ rb, rb = w.heap.size := ⟨_, rfl⟩
  have HP := hide (show PT w1 b m t by rw [hw1]; exact HP0.out.below (alloc_below _ _))
  have HX := hide (show RBox w1 rb 55 rc by rw [hw1, hrb]; exact RBox.new _ _ _)
  have HB := hide (show Below w.heap.size w w1 by rw [hw1]; exact alloc_below _ _)
  rw [← hrb]
  clear hw1 hrb HP0 y0 y1
  go_cut [5] (fun v w' => ∃ B, v = ptr B ∧ Cells w' B [fv 63, fv 64] ∧ Below w1.heap.size w1 w')
  case first =>
    refine wp_region_held_drew (S := fun wq => Below w1.heap.size w1 wq) (by kernel_rfl) (Below.refl _ _).drew (fun hS => ?_)
    refine take_at 1 (some 20) (v := ?_) rfl rfl (by kernel_rfl) (by kernel_rfl) (by kernel_rfl) (fun _ _ _ h => h) ⟨by rfl, ?_⟩ hS ?_
    rotate_left
    · intro wq hSw; go_simp; try rfl
    simp only [Act.put, List.setIfInBounds_toArray, List.set_cons_zero, List.set_cons_succ]
    refine take_at 2 (some 21) (v := ?_) rfl rfl (by kernel_rfl) (by kernel_rfl) (by kernel_rfl) (fun _ _ _ h => h) ⟨by rfl, ?_⟩ hS ?_
    rotate_left
    · intro wq hSw; have q := (HA.out.box (HX.out.below hSw)).2.1; go_simp; try rfl
    simp only [Act.put, List.setIfInBounds_toArray, List.set_cons_zero, List.set_cons_succ]
    have D1 := hide hS
    clear hS
    generalize w1.drew = x1 at *
    refine wpAnyH_ready (rs := [0, 4]) (by kernel_rfl) (by simp) ?_
    refine AllReadyH.cons rfl (fun K hK => ?_) (AllReadyH.cons rfl (fun K hK => ?_) AllReadyH.nil)
    · go_simp
      go_wp2_with fail
      refine (rules_any _).mono ?_
      rintro e x2 ⟨a3, a4, a5, a6, a7, rfl, c3, c4, c5, c6, c7, hb⟩
      have FB := hide True.intro
      have LO := hide (show w1.heap.size ≤ x2.heap.size from Nat.le_trans D1.out.size hb.size)
      have D2 := hide (D1.out.trans (hb.mono D1.out.size))
      clear c3 c4 c5 c6 c7 hb
      go_wp2_with fail
      refine hK.out _ _ D2.out (fun hS => ?_)
      clear hK K D1
      (try simp only [Act.put, List.setIfInBounds_toArray, List.set_cons_zero, List.set_cons_succ])
      refine take_at 3 (some 22) (v := ?_) rfl rfl (by kernel_rfl) (by kernel_rfl) (by kernel_rfl) (fun _ _ _ h => h) ⟨by rfl, ?_⟩ hS ?_
      rotate_left
      · intro wq hSw; go_simp; try rfl
      simp only [Act.put, List.setIfInBounds_toArray, List.set_cons_zero, List.set_cons_succ]
      clear hS
      refine wpAnyH_ready (rs := [4]) (by kernel_rfl) (by simp) ?_
      refine AllReadyH.cons rfl (fun K hK => ?_) AllReadyH.nil
      go_simp
      go_wp2_with fail
      refine hK.out _ _ (D2.out.alloc D2.out.size _) (fun hS => ?_)
      clear hK K hS
      (try simp only [Act.put, List.setIfInBounds_toArray, List.set_cons_zero, List.set_cons_succ])
      refine wpAnyH_ready (rs := [5]) (by kernel_rfl) (by simp) ?_
      refine AllReadyH.cons rfl (fun K hK => ?_) AllReadyH.nil
      refine wp_store91 (.tmp 5) (.tmp 22) rfl rfl rfl rfl rfl (RBox.new x2 #[.nilFunc, .nilFunc] 103) rfl rfl ?_
      intro x3 c3 k3
      have C3 := hide c3
      have K3 := hide k3
      have B3 := hide (show Below w1.heap.size w1 x3 from (D2.out.alloc D2.out.size _).trans (k3.below (Nat.le_trans D2.out.size (by simp)) (fun z hz q => by have := LO.out; omega)))
      clear c3 k3
      refine hK.out _ _ B3.out (fun hS => ?_)
      clear hK K hS
      (try simp only [Act.put])
      refine wpAnyH_done (by kernel_rfl) ?_ _
      go_wp2_with fail
      go_meet
      exact ⟨_, rfl, C3.out, B3.out⟩
    · go_simp
      go_wp2_with fail
      refine hK.out _ _ (D1.out.alloc D1.out.size _) (fun hS => ?_)
      clear hK K hS
      (try simp only [Act.put, List.setIfInBounds_toArray, List.set_cons_zero, List.set_cons_succ])
      have TB := hide (RBox.new x1 #[.nilFunc, .nilFunc] 103)
      have LO := hide (show w1.heap.size ≤ x1.heap.size from D1.out.size)
      have D1b := hide (D1.out.alloc D1.out.size (.cells #[.nilFunc, .nilFunc] 103))
      clear D1
      generalize x1.heap.size = tb at *
      refine wpAnyH_ready (rs := [0]) (by kernel_rfl) (by simp) ?_
      refine AllReadyH.cons rfl (fun K hK => ?_) AllReadyH.nil
      go_simp
      go_wp2_with fail
      refine (rules_any _).mono ?_
      rintro e x2 ⟨a3, a4, a5, a6, a7, rfl, c3, c4, c5, c6, c7, hb⟩
      have FB := hide True.intro
      have D2 := hide (D1b.out.trans (hb.mono D1b.out.size))
      have T2 := hide (TB.out.below hb)
      clear c3 c4 c5 c6 c7 hb
      go_wp2_with fail
      refine hK.out _ _ D2.out (fun hS => ?_)
      clear hK K D1b TB
      (try simp only [Act.put, List.setIfInBounds_toArray, List.set_cons_zero, List.set_cons_succ])
      refine take_at 3 (some 22) (v := ?_) rfl rfl (by kernel_rfl) (by kernel_rfl) (by kernel_rfl) (fun _ _ _ h => h) ⟨by rfl, ?_⟩ hS ?_
      rotate_left
      · intro wq hSw; go_simp; try rfl
      simp only [Act.put, List.setIfInBounds_toArray, List.set_cons_zero, List.set_cons_succ]
      clear hS
      refine wpAnyH_ready (rs := [5]) (by kernel_rfl) (by simp) ?_
      refine AllReadyH.cons rfl (fun K hK => ?_) AllReadyH.nil
      refine wp_store91 (.tmp 5) (.tmp 22) rfl rfl rfl rfl rfl T2.out rfl rfl ?_
      intro x3 c3 k3
      have C3 := hide c3
      have K3 := hide k3
      have B3 := hide (show Below w1.heap.size w1 x3 from (D2.out).trans (k3.below (Nat.le_trans D2.out.size (Nat.le_refl _)) (fun z hz q => by have := LO.out; omega)))
      clear c3 k3
      refine hK.out _ _ B3.out (fun hS => ?_)
      clear hK K hS
      (try simp only [Act.put])
      refine wpAnyH_done (by kernel_rfl) ?_ _
      go_wp2_with fail
      go_meet
      exact ⟨_, rfl, C3.out, B3.out⟩
  case rest =>
    obtain ⟨B, rfl, cB, hb⟩ := hcut
    have HP2 := hide (HP.out.below hb)
    have HX2 := hide (HX.out.below hb)
    have HB2 := hide (HB.out.trans (hb.mono HB.out.size))
    have CB := hide cB
    obtain ⟨b0, -⟩ := cB.get 0 _ rfl
    clear cB hb HP HX HB
    go_wp2_with (refine wpList_load51 HX2.out HA.out.sz rfl ?_)
    refine (never_any _ rc _).mono ?_
    rintro e w3 ⟨rfl, hb3⟩
    have HP3 := hide (HP2.out.below hb3)
    have HX3 := hide (HX2.out.below hb3)
    have HB3 := hide (HB2.out.trans (hb3.mono HB2.out.size))
    obtain ⟨b1, -⟩ := (CB.out.below hb3).get 1 _ rfl
    clear hb3 HP2 HX2 HB2 CB b0
    go_wp2_with (refine wpList_load51 HX3.out HA.out.sz rfl ?_)
    refine (nothing_any _ rc _).mono ?_
    rintro e w4 ⟨rfl, hb4⟩
    have HP4 := hide (HP3.out.below hb4)
    have HB4 := hide (HB3.out.trans (hb4.mono HB3.out.size))
    clear hb4
    go_wp2_with fail
    go_ret
    exact ⟨rfl, HP4.out, Keep.of_below HB4.out⟩
set_option maxHeartbeats 4000000 in
theorem note3 (b m : Nat) (t : TbM) (rc : Array Value) (lsn k tx prev : Int) (w : World) (h : PT w b m t) (hr : RecA rc lsn k tx prev) (hl : isLsn lsn = true) (hk : k = 3) : Calls Tryz.prog 30 #[ptr b, .agg rc] w (NotePost b m t lsn k tx prev w) := by
  unfold NotePost
  have KL := fun w => mayLsn_any lsn w
  subst hk
  rw [hl] at KL
  have eN := note_pass (t := t) (k := 3) (tx := tx) (prev := prev) hl (by omega) (by omega)
  have HOK := hide (h.ok.noteT lsn 3 tx prev)
  have HZ := hide (show t.chainE lsn 3 tx prev = 0 → ∃ x, getT t.L tx = some x ∧ t.noteT lsn 3 tx prev = ⟨setT t.L ⟨x.tx, lsn, x.com, x.und⟩, t.next⟩ from fun q => by
    obtain ⟨x, hx1, hx2, hx3⟩ := chain_some q
    refine ⟨x, hx1, ?_⟩
    rw [note_go (by rw [eN]; exact q), went_chain hx1 (by omega) (by omega), show gone 3 lsn x = ⟨x.tx, lsn, x.com, x.und⟩ by simp [gone]])
  have KG := fun (x : Lv) w' (h : PT w' b m t) (hg : getT t.L tx = some x) (hok : TbM.Ok ⟨setT t.L ⟨x.tx, lsn, x.com, x.und⟩, t.next⟩) => goesOn_any b m t rc lsn 3 tx prev x w' h hr hg hok
  have HS := hide (show t.chainE lsn 3 tx prev ≠ 0 → t.noteT lsn 3 tx prev = t from fun q => note_stay (by rw [eN]; exact q))
  have KC := fun fb w' (h : PT w' b m t) (hf : Cells w' fb [fv 66]) => chained47_any b m t rc lsn 3 tx prev fb w' h hr hf (fun x => rfl)
  rw [eN]
  clear eN
  generalize t.chainE lsn 3 tx prev = E at *
  generalize t.noteT lsn 3 tx prev = T' at *
  obtain ⟨y0, y1, -, -⟩ := (hr.box (RBox.new w rc 55))
  have HLS := hide hl
  have HA := hide hr
  have HP0 := hide h
  clear h hr hl
  go_enter Tryz.func30, Tryz.ntmps30
  go_upto_region 5 with (go_at_call 45; refine (KL _).mono ?_; rintro e wz ⟨rfl, rfl⟩)
  refine named (P := Code.wp _ _ _ _) ?_
  intro w1 hw1
  obtain ⟨rb, hrb⟩ : ∃ rb, rb = w.heap.size := ⟨_, rfl⟩
  have HP := hide (show PT w1 b m t by rw [hw1]; exact HP0.out.below (alloc_below _ _))
  have HX := hide (show RBox w1 rb 55 rc by rw [hw1, hrb]; exact RBox.new _ _ _)
  have HB := hide (show Below w.heap.size w w1 by rw [hw1]; exact alloc_below _ _)
  rw [← hrb]
  clear hw1 hrb HP0 y0 y1
  go_cut [5] (fun v w' => ∃ B fb, v = ptr B ∧ Cells w' B [cv fb, fv 67] ∧ Cells w' fb [fv 66] ∧ Below w1.heap.size w1 w')
  case first =>
    refine wp_region_held_drew (S := fun wq => Below w1.heap.size w1 wq) (by kernel_rfl) (Below.refl _ _).drew (fun hS => ?_)
    refine take_at 1 (some 20) (v := ?_) rfl rfl (by kernel_rfl) (by kernel_rfl) (by kernel_rfl) (fun _ _ _ h => h) ⟨by rfl, ?_⟩ hS ?_
    rotate_left
    · intro wq hSw; go_simp; try rfl
    simp only [Act.put, List.setIfInBounds_toArray, List.set_cons_zero, List.set_cons_succ]
    refine take_at 2 (some 21) (v := ?_) rfl rfl (by kernel_rfl) (by kernel_rfl) (by kernel_rfl) (fun _ _ _ h => h) ⟨by rfl, ?_⟩ hS ?_
    rotate_left
    · intro wq hSw; have q := (HA.out.box (HX.out.below hSw)).2.1; go_simp; try rfl
    simp only [Act.put, List.setIfInBounds_toArray, List.set_cons_zero, List.set_cons_succ]
    have D1 := hide hS
    clear hS
    generalize w1.drew = x1 at *
    refine wpAnyH_ready (rs := [0, 4]) (by kernel_rfl) (by simp) ?_
    refine AllReadyH.cons rfl (fun K hK => ?_) (AllReadyH.cons rfl (fun K hK => ?_) AllReadyH.nil)
    · go_simp
      go_wp2_with fail
      refine (rules_any _).mono ?_
      rintro e x2 ⟨a3, a4, a5, a6, a7, rfl, c3, c4, c5, c6, c7, hb⟩
      have FB := hide c3
      have LO := hide (show w1.heap.size ≤ x2.heap.size from Nat.le_trans D1.out.size hb.size)
      have D2 := hide (D1.out.trans (hb.mono D1.out.size))
      clear c3 c4 c5 c6 c7 hb
      go_wp2_with fail
      refine hK.out _ _ D2.out (fun hS => ?_)
      clear hK K D1
      (try simp only [Act.put, List.setIfInBounds_toArray, List.set_cons_zero, List.set_cons_succ])
      refine take_at 3 (some 22) (v := ?_) rfl rfl (by kernel_rfl) (by kernel_rfl) (by kernel_rfl) (fun _ _ _ h => h) ⟨by rfl, ?_⟩ hS ?_
      rotate_left
      · intro wq hSw; go_simp; try rfl
      simp only [Act.put, List.setIfInBounds_toArray, List.set_cons_zero, List.set_cons_succ]
      clear hS
      refine wpAnyH_ready (rs := [4]) (by kernel_rfl) (by simp) ?_
      refine AllReadyH.cons rfl (fun K hK => ?_) AllReadyH.nil
      go_simp
      go_wp2_with fail
      refine hK.out _ _ (D2.out.alloc D2.out.size _) (fun hS => ?_)
      clear hK K hS
      (try simp only [Act.put, List.setIfInBounds_toArray, List.set_cons_zero, List.set_cons_succ])
      refine wpAnyH_ready (rs := [5]) (by kernel_rfl) (by simp) ?_
      refine AllReadyH.cons rfl (fun K hK => ?_) AllReadyH.nil
      refine wp_store91 (.tmp 5) (.tmp 22) rfl rfl rfl rfl rfl (RBox.new x2 #[.nilFunc, .nilFunc] 103) rfl rfl ?_
      intro x3 c3 k3
      have C3 := hide c3
      have K3 := hide k3
      have B3 := hide (show Below w1.heap.size w1 x3 from (D2.out.alloc D2.out.size _).trans (k3.below (Nat.le_trans D2.out.size (by simp)) (fun z hz q => by have := LO.out; omega)))
      clear c3 k3
      refine hK.out _ _ B3.out (fun hS => ?_)
      clear hK K hS
      (try simp only [Act.put])
      refine wpAnyH_done (by kernel_rfl) ?_ _
      go_wp2_with fail
      go_meet
      exact ⟨_, a3, rfl, C3.out, (FB.out.below (alloc_below x2 (.cells #[.nilFunc, .nilFunc] 103))).keep K3.out (by have := FB.out.1; omega), B3.out⟩
    · go_simp
      go_wp2_with fail
      refine hK.out _ _ (D1.out.alloc D1.out.size _) (fun hS => ?_)
      clear hK K hS
      (try simp only [Act.put, List.setIfInBounds_toArray, List.set_cons_zero, List.set_cons_succ])
      have TB := hide (RBox.new x1 #[.nilFunc, .nilFunc] 103)
      have LO := hide (show w1.heap.size ≤ x1.heap.size from D1.out.size)
      have D1b := hide (D1.out.alloc D1.out.size (.cells #[.nilFunc, .nilFunc] 103))
      clear D1
      generalize x1.heap.size = tb at *
      refine wpAnyH_ready (rs := [0]) (by kernel_rfl) (by simp) ?_
      refine AllReadyH.cons rfl (fun K hK => ?_) AllReadyH.nil
      go_simp
      go_wp2_with fail
      refine (rules_any _).mono ?_
      rintro e x2 ⟨a3, a4, a5, a6, a7, rfl, c3, c4, c5, c6, c7, hb⟩
      have FB := hide c3
      have D2 := hide (D1b.out.trans (hb.mono D1b.out.size))
      have T2 := hide (TB.out.below hb)
      have NE := hide (show ¬ a3 = tb from fun q => by have e := (FB.out.get 0 _ rfl).1; rw [q] at e; have e2 := (T2.out.cells.get 0 _ rfl).1; rw [e] at e2; cases e2)
      clear c3 c4 c5 c6 c7 hb
      go_wp2_with fail
      refine hK.out _ _ D2.out (fun hS => ?_)
      clear hK K D1b TB
      (try simp only [Act.put, List.setIfInBounds_toArray, List.set_cons_zero, List.set_cons_succ])
      refine take_at 3 (some 22) (v := ?_) rfl rfl (by kernel_rfl) (by kernel_rfl) (by kernel_rfl) (fun _ _ _ h => h) ⟨by rfl, ?_⟩ hS ?_
      rotate_left
      · intro wq hSw; go_simp; try rfl
      simp only [Act.put, List.setIfInBounds_toArray, List.set_cons_zero, List.set_cons_succ]
      clear hS
      refine wpAnyH_ready (rs := [5]) (by kernel_rfl) (by simp) ?_
      refine AllReadyH.cons rfl (fun K hK => ?_) AllReadyH.nil
      refine wp_store91 (.tmp 5) (.tmp 22) rfl rfl rfl rfl rfl T2.out rfl rfl ?_
      intro x3 c3 k3
      have C3 := hide c3
      have K3 := hide k3
      have B3 := hide (show Below w1.heap.size w1 x3 from (D2.out).trans (k3.below (Nat.le_trans D2.out.size (Nat.le_refl _)) (fun z hz q => by have := LO.out; omega)))
      clear c3 k3
      refine hK.out _ _ B3.out (fun hS => ?_)
      clear hK K hS
      (try simp only [Act.put])
      refine wpAnyH_done (by kernel_rfl) ?_ _
      go_wp2_with fail
      go_meet
      exact ⟨_, a3, rfl, C3.out, FB.out.keep K3.out NE.out, B3.out⟩
  case rest =>
    obtain ⟨B, fb, rfl, cB, cF, hb⟩ := hcut
    have HP2 := hide (HP.out.below hb)
    have HX2 := hide (HX.out.below hb)
    have HB2 := hide (HB.out.trans (hb.mono HB.out.size))
    have CB := hide cB
    have CF := hide cF
    clear cF
    obtain ⟨b0, -⟩ := cB.get 0 _ rfl
    clear cB hb HP HX HB
    go_wp2_with (refine wpList_load51 HX2.out HA.out.sz rfl ?_)
    refine (KC fb _ HP2.out CF.out).mono ?_
    rintro e w3 ⟨rfl, hb3⟩
    have HP3 := hide (HP2.out.below hb3)
    have HX3 := hide (HX2.out.below hb3)
    have HB3 := hide (HB2.out.trans (hb3.mono HB2.out.size))
    obtain ⟨b1, -⟩ := (CB.out.below hb3).get 1 _ rfl
    clear hb3 HP2 HX2 HB2 CB b0 CF KC
    by_cases hz : E = 0
    · have d : (E != 0) = false := by simpa using hz
      have HE := hide hz
      clear hz
      obtain ⟨x, hg, hT⟩ := HZ.out HE.out
      have HT := hide hT
      have K2 := KG x _ HP3.out hg (by rw [← hT]; exact HOK.out)
      clear KG HZ hT hg
      go_wp2_with (refine wpList_load51 HX3.out HA.out.sz rfl ?_)
      refine K2.mono ?_
      rintro e w4 ⟨rfl, p4, k4⟩
      have P4 := hide p4
      have K4 := hide k4
      clear p4 k4 K2
      go_wp2_with fail
      go_ret
      exact ⟨by rw [HE.out]; rfl, by rw [HT.out]; exact P4.out, (Keep.of_below HB3.out).trans K4.out (fun _ _ q => q)⟩
    · have d : (E != 0) = true := by simpa using hz
      have HT := hide (HS.out hz)
      clear hz KG
      go_wp2_with fail
      go_ret
      exact ⟨rfl, by rw [HT.out]; exact HP3.out, Keep.of_below HB3.out⟩
set_option maxHeartbeats 4000000 in
theorem note4 (b m : Nat) (t : TbM) (rc : Array Value) (lsn k tx prev : Int) (w : World) (h : PT w b m t) (hr : RecA rc lsn k tx prev) (hl : isLsn lsn = true) (hk : k = 4) : Calls Tryz.prog 30 #[ptr b, .agg rc] w (NotePost b m t lsn k tx prev w) := by
  unfold NotePost
  have KL := fun w => mayLsn_any lsn w
  subst hk
  rw [hl] at KL
  have eN := note_pass (t := t) (k := 4) (tx := tx) (prev := prev) hl (by omega) (by omega)
  have HOK := hide (h.ok.noteT lsn 4 tx prev)
  have HZ := hide (show t.chainE lsn 4 tx prev = 0 → ∃ x, getT t.L tx = some x ∧ t.noteT lsn 4 tx prev = ⟨setT t.L ⟨x.tx, lsn, x.com, x.und⟩, t.next⟩ from fun q => by
    obtain ⟨x, hx1, hx2, hx3⟩ := chain_some q
    refine ⟨x, hx1, ?_⟩
    rw [note_go (by rw [eN]; exact q), went_chain hx1 (by omega) (by omega), show gone 4 lsn x = ⟨x.tx, lsn, x.com, x.und⟩ by simp [gone]])
  have KG := fun (x : Lv) w' (h : PT w' b m t) (hg : getT t.L tx = some x) (hok : TbM.Ok ⟨setT t.L ⟨x.tx, lsn, x.com, x.und⟩, t.next⟩) => goesOn_any b m t rc lsn 4 tx prev x w' h hr hg hok
  have HS := hide (show t.chainE lsn 4 tx prev ≠ 0 → t.noteT lsn 4 tx prev = t from fun q => note_stay (by rw [eN]; exact q))
  have KC := fun fb w' (h : PT w' b m t) (hf : Cells w' fb [fv 68]) => chained49_any b m t rc lsn 4 tx prev fb w' h hr hf (fun x => rfl)
  rw [eN]
  clear eN
  generalize t.chainE lsn 4 tx prev = E at *
  generalize t.noteT lsn 4 tx prev = T' at *
  obtain ⟨y0, y1, -, -⟩ := (hr.box (RBox.new w rc 55))
  have HLS := hide hl
  have HA := hide hr
  have HP0 := hide h
  clear h hr hl
  go_enter Tryz.func30, Tryz.ntmps30
  go_upto_region 5 with (go_at_call 45; refine (KL _).mono ?_; rintro e wz ⟨rfl, rfl⟩)
  refine named (P := Code.wp _ _ _ _) ?_
  intro w1 hw1
  obtain ⟨rb, hrb⟩ : ∃ rb, rb = w.heap.size := ⟨_, rfl⟩
  have HP := hide (show PT w1 b m t by rw [hw1]; exact HP0.out.below (alloc_below _ _))
  have HX := hide (show RBox w1 rb 55 rc by rw [hw1, hrb]; exact RBox.new _ _ _)
  have HB := hide (show Below w.heap.size w w1 by rw [hw1]; exact alloc_below _ _)
  rw [← hrb]
  clear hw1 hrb HP0 y0 y1
  go_cut [5] (fun v w' => ∃ B fb, v = ptr B ∧ Cells w' B [cv fb, fv 67] ∧ Cells w' fb [fv 68] ∧ Below w1.heap.size w1 w')
  case first =>
    refine wp_region_held_drew (S := fun wq => Below w1.heap.size w1 wq) (by kernel_rfl) (Below.refl _ _).drew (fun hS => ?_)
    refine take_at 1 (some 20) (v := ?_) rfl rfl (by kernel_rfl) (by kernel_rfl) (by kernel_rfl) (fun _ _ _ h => h) ⟨by rfl, ?_⟩ hS ?_
    rotate_left
    · intro wq hSw; go_simp; try rfl
    simp only [Act.put, List.setIfInBounds_toArray, List.set_cons_zero, List.set_cons_succ]
    refine take_at 2 (some 21) (v := ?_) rfl rfl (by kernel_rfl) (by kernel_rfl) (by kernel_rfl) (fun _ _ _ h => h) ⟨by rfl, ?_⟩ hS ?_
    rotate_left
    · intro wq hSw; have q := (HA.out.box (HX.out.below hSw)).2.1; go_simp; try rfl
    simp only [Act.put, List.setIfInBounds_toArray, List.set_cons_zero, List.set_cons_succ]
    have D1 := hide hS
    clear hS
    generalize w1.drew = x1 at *
    refine wpAnyH_ready (rs := [0, 4]) (by kernel_rfl) (by simp) ?_
    refine AllReadyH.cons rfl (fun K hK => ?_) (AllReadyH.cons rfl (fun K hK => ?_) AllReadyH.nil)
    · go_simp
      go_wp2_with fail
      refine (rules_any _).mono ?_
      rintro e x2 ⟨a3, a4, a5, a6, a7, rfl, c3, c4, c5, c6, c7, hb⟩
      have FB := hide c4
      have LO := hide (show w1.heap.size ≤ x2.heap.size from Nat.le_trans D1.out.size hb.size)
      have D2 := hide (D1.out.trans (hb.mono D1.out.size))
      clear c3 c4 c5 c6 c7 hb
      go_wp2_with fail
      refine hK.out _ _ D2.out (fun hS => ?_)
      clear hK K D1
      (try simp only [Act.put, List.setIfInBounds_toArray, List.set_cons_zero, List.set_cons_succ])
      refine take_at 3 (some 22) (v := ?_) rfl rfl (by kernel_rfl) (by kernel_rfl) (by kernel_rfl) (fun _ _ _ h => h) ⟨by rfl, ?_⟩ hS ?_
      rotate_left
      · intro wq hSw; go_simp; try rfl
      simp only [Act.put, List.setIfInBounds_toArray, List.set_cons_zero, List.set_cons_succ]
      clear hS
      refine wpAnyH_ready (rs := [4]) (by kernel_rfl) (by simp) ?_
      refine AllReadyH.cons rfl (fun K hK => ?_) AllReadyH.nil
      go_simp
      go_wp2_with fail
      refine hK.out _ _ (D2.out.alloc D2.out.size _) (fun hS => ?_)
      clear hK K hS
      (try simp only [Act.put, List.setIfInBounds_toArray, List.set_cons_zero, List.set_cons_succ])
      refine wpAnyH_ready (rs := [5]) (by kernel_rfl) (by simp) ?_
      refine AllReadyH.cons rfl (fun K hK => ?_) AllReadyH.nil
      refine wp_store91 (.tmp 5) (.tmp 22) rfl rfl rfl rfl rfl (RBox.new x2 #[.nilFunc, .nilFunc] 103) rfl rfl ?_
      intro x3 c3 k3
      have C3 := hide c3
      have K3 := hide k3
      have B3 := hide (show Below w1.heap.size w1 x3 from (D2.out.alloc D2.out.size _).trans (k3.below (Nat.le_trans D2.out.size (by simp)) (fun z hz q => by have := LO.out; omega)))
      clear c3 k3
      refine hK.out _ _ B3.out (fun hS => ?_)
      clear hK K hS
      (try simp only [Act.put])
      refine wpAnyH_done (by kernel_rfl) ?_ _
      go_wp2_with fail
      go_meet
      exact ⟨_, a4, rfl, C3.out, (FB.out.below (alloc_below x2 (.cells #[.nilFunc, .nilFunc] 103))).keep K3.out (by have := FB.out.1; omega), B3.out⟩
    · go_simp
      go_wp2_with fail
      refine hK.out _ _ (D1.out.alloc D1.out.size _) (fun hS => ?_)
      clear hK K hS
      (try simp only [Act.put, List.setIfInBounds_toArray, List.set_cons_zero, List.set_cons_succ])
      have TB := hide (RBox.new x1 #[.nilFunc, .nilFunc] 103)
      have LO := hide (show w1.heap.size ≤ x1.heap.size from D1.out.size)
      have D1b := hide (D1.out.alloc D1.out.size (.cells #[.nilFunc, .nilFunc] 103))
      clear D1
      generalize x1.heap.size = tb at *
      refine wpAnyH_ready (rs := [0]) (by kernel_rfl) (by simp) ?_
      refine AllReadyH.cons rfl (fun K hK => ?_) AllReadyH.nil
      go_simp
      go_wp2_with fail
      refine (rules_any _).mono ?_
      rintro e x2 ⟨a3, a4, a5, a6, a7, rfl, c3, c4, c5, c6, c7, hb⟩
      have FB := hide c4
      have D2 := hide (D1b.out.trans (hb.mono D1b.out.size))
      have T2 := hide (TB.out.below hb)
      have NE := hide (show ¬ a4 = tb from fun q => by have e := (FB.out.get 0 _ rfl).1; rw [q] at e; have e2 := (T2.out.cells.get 0 _ rfl).1; rw [e] at e2; cases e2)
      clear c3 c4 c5 c6 c7 hb
      go_wp2_with fail
      refine hK.out _ _ D2.out (fun hS => ?_)
      clear hK K D1b TB
      (try simp only [Act.put, List.setIfInBounds_toArray, List.set_cons_zero, List.set_cons_succ])
      refine take_at 3 (some 22) (v := ?_) rfl rfl (by kernel_rfl) (by kernel_rfl) (by kernel_rfl) (fun _ _ _ h => h) ⟨by rfl, ?_⟩ hS ?_
      rotate_left
      · intro wq hSw; go_simp; try rfl
      simp only [Act.put, List.setIfInBounds_toArray, List.set_cons_zero, List.set_cons_succ]
      clear hS
      refine wpAnyH_ready (rs := [5]) (by kernel_rfl) (by simp) ?_
      refine AllReadyH.cons rfl (fun K hK => ?_) AllReadyH.nil
      refine wp_store91 (.tmp 5) (.tmp 22) rfl rfl rfl rfl rfl T2.out rfl rfl ?_
      intro x3 c3 k3
      have C3 := hide c3
      have K3 := hide k3
      have B3 := hide (show Below w1.heap.size w1 x3 from (D2.out).trans (k3.below (Nat.le_trans D2.out.size (Nat.le_refl _)) (fun z hz q => by have := LO.out; omega)))
      clear c3 k3
      refine hK.out _ _ B3.out (fun hS => ?_)
      clear hK K hS
      (try simp only [Act.put])
      refine wpAnyH_done (by kernel_rfl) ?_ _
      go_wp2_with fail
      go_meet
      exact ⟨_, a4, rfl, C3.out, FB.out.keep K3.out NE.out, B3.out⟩
  case rest =>
    obtain ⟨B, fb, rfl, cB, cF, hb⟩ := hcut
    have HP2 := hide (HP.out.below hb)
    have HX2 := hide (HX.out.below hb)
    have HB2 := hide (HB.out.trans (hb.mono HB.out.size))
    have CB := hide cB
    have CF := hide cF
    clear cF
    obtain ⟨b0, -⟩ := cB.get 0 _ rfl
    clear cB hb HP HX HB
    go_wp2_with (refine wpList_load51 HX2.out HA.out.sz rfl ?_)
    refine (KC fb _ HP2.out CF.out).mono ?_
    rintro e w3 ⟨rfl, hb3⟩
    have HP3 := hide (HP2.out.below hb3)
    have HX3 := hide (HX2.out.below hb3)
    have HB3 := hide (HB2.out.trans (hb3.mono HB2.out.size))
    obtain ⟨b1, -⟩ := (CB.out.below hb3).get 1 _ rfl
    clear hb3 HP2 HX2 HB2 CB b0 CF KC
    by_cases hz : E = 0
    · have d : (E != 0) = false := by simpa using hz
      have HE := hide hz
      clear hz
      obtain ⟨x, hg, hT⟩ := HZ.out HE.out
      have HT := hide hT
      have K2 := KG x _ HP3.out hg (by rw [← hT]; exact HOK.out)
      clear KG HZ hT hg
      go_wp2_with (refine wpList_load51 HX3.out HA.out.sz rfl ?_)
      refine K2.mono ?_
      rintro e w4 ⟨rfl, p4, k4⟩
      have P4 := hide p4
      have K4 := hide k4
      clear p4 k4 K2
      go_wp2_with fail
      go_ret
      exact ⟨by rw [HE.out]; rfl, by rw [HT.out]; exact P4.out, (Keep.of_below HB3.out).trans K4.out (fun _ _ q => q)⟩
    · have d : (E != 0) = true := by simpa using hz
      have HT := hide (HS.out hz)
      clear hz KG
      go_wp2_with fail
      go_ret
      exact ⟨rfl, by rw [HT.out]; exact HP3.out, Keep.of_below HB3.out⟩
set_option maxHeartbeats 4000000 in
theorem note5 (b m : Nat) (t : TbM) (rc : Array Value) (lsn k tx prev : Int) (w : World) (h : PT w b m t) (hr : RecA rc lsn k tx prev) (hl : isLsn lsn = true) (hk : k = 5) : Calls Tryz.prog 30 #[ptr b, .agg rc] w (NotePost b m t lsn k tx prev w) := by
  unfold NotePost
  have KL := fun w => mayLsn_any lsn w
  subst hk
  rw [hl] at KL
  have eN := note_pass (t := t) (k := 5) (tx := tx) (prev := prev) hl (by omega) (by omega)
  have HOK := hide (h.ok.noteT lsn 5 tx prev)
  have HZ := hide (show t.chainE lsn 5 tx prev = 0 → ∃ x, getT t.L tx = some x ∧ t.noteT lsn 5 tx prev = ⟨setT t.L ⟨tx, lsn, true, false⟩, t.next⟩ from fun q => by
    obtain ⟨x, hx1, hx2, hx3⟩ := chain_some q
    refine ⟨x, hx1, ?_⟩
    rw [note_go (by rw [eN]; exact q), went_chain hx1 (by omega) (by omega), show gone 5 lsn x = ⟨tx, lsn, true, false⟩ by obtain ⟨c1, c2, c3, c4⟩ := x; cases c3 <;> cases c4 <;> simp_all [gone, fitsK]])
  have KG := fun (x : Lv) w' (h : PT w' b m t) (hg : getT t.L tx = some x) (hok : TbM.Ok ⟨setT t.L ⟨tx, lsn, true, false⟩, t.next⟩) => commits_any b m t rc lsn 5 tx prev x w' h hr hg hok
  have HS := hide (show t.chainE lsn 5 tx prev ≠ 0 → t.noteT lsn 5 tx prev = t from fun q => note_stay (by rw [eN]; exact q))
  have KC := fun fb w' (h : PT w' b m t) (hf : Cells w' fb [fv 66]) => chained47_any b m t rc lsn 5 tx prev fb w' h hr hf (fun x => rfl)
  rw [eN]
  clear eN
  generalize t.chainE lsn 5 tx prev = E at *
  generalize t.noteT lsn 5 tx prev = T' at *
  obtain ⟨y0, y1, -, -⟩ := (hr.box (RBox.new w rc 55))
  have HLS := hide hl
  have HA := hide hr
  have HP0 := hide h
  clear h hr hl
  go_enter Tryz.func30, Tryz.ntmps30
  go_upto_region 5 with (go_at_call 45; refine (KL _).mono ?_; rintro e wz ⟨rfl, rfl⟩)
  refine named (P := Code.wp _ _ _ _) ?_
  intro w1 hw1
  obtain ⟨rb, hrb⟩ : ∃ rb, rb = w.heap.size := ⟨_, rfl⟩
  have HP := hide (show PT w1 b m t by rw [hw1]; exact HP0.out.below (alloc_below _ _))
  have HX := hide (show RBox w1 rb 55 rc by rw [hw1, hrb]; exact RBox.new _ _ _)
  have HB := hide (show Below w.heap.size w w1 by rw [hw1]; exact alloc_below _ _)
  rw [← hrb]
  clear hw1 hrb HP0 y0 y1
  go_cut [5] (fun v w' => ∃ B fb, v = ptr B ∧ Cells w' B [cv fb, fv 69] ∧ Cells w' fb [fv 66] ∧ Below w1.heap.size w1 w')
  case first =>
    refine wp_region_held_drew (S := fun wq => Below w1.heap.size w1 wq) (by kernel_rfl) (Below.refl _ _).drew (fun hS => ?_)
    refine take_at 1 (some 20) (v := ?_) rfl rfl (by kernel_rfl) (by kernel_rfl) (by kernel_rfl) (fun _ _ _ h => h) ⟨by rfl, ?_⟩ hS ?_
    rotate_left
    · intro wq hSw; go_simp; try rfl
    simp only [Act.put, List.setIfInBounds_toArray, List.set_cons_zero, List.set_cons_succ]
    refine take_at 2 (some 21) (v := ?_) rfl rfl (by kernel_rfl) (by kernel_rfl) (by kernel_rfl) (fun _ _ _ h => h) ⟨by rfl, ?_⟩ hS ?_
    rotate_left
    · intro wq hSw; have q := (HA.out.box (HX.out.below hSw)).2.1; go_simp; try rfl
    simp only [Act.put, List.setIfInBounds_toArray, List.set_cons_zero, List.set_cons_succ]
    have D1 := hide hS
    clear hS
    generalize w1.drew = x1 at *
    refine wpAnyH_ready (rs := [0, 4]) (by kernel_rfl) (by simp) ?_
    refine AllReadyH.cons rfl (fun K hK => ?_) (AllReadyH.cons rfl (fun K hK => ?_) AllReadyH.nil)
    · go_simp
      go_wp2_with fail
      refine (rules_any _).mono ?_
      rintro e x2 ⟨a3, a4, a5, a6, a7, rfl, c3, c4, c5, c6, c7, hb⟩
      have FB := hide c5
      have LO := hide (show w1.heap.size ≤ x2.heap.size from Nat.le_trans D1.out.size hb.size)
      have D2 := hide (D1.out.trans (hb.mono D1.out.size))
      clear c3 c4 c5 c6 c7 hb
      go_wp2_with fail
      refine hK.out _ _ D2.out (fun hS => ?_)
      clear hK K D1
      (try simp only [Act.put, List.setIfInBounds_toArray, List.set_cons_zero, List.set_cons_succ])
      refine take_at 3 (some 22) (v := ?_) rfl rfl (by kernel_rfl) (by kernel_rfl) (by kernel_rfl) (fun _ _ _ h => h) ⟨by rfl, ?_⟩ hS ?_
      rotate_left
      · intro wq hSw; go_simp; try rfl
      simp only [Act.put, List.setIfInBounds_toArray, List.set_cons_zero, List.set_cons_succ]
      clear hS
      refine wpAnyH_ready (rs := [4]) (by kernel_rfl) (by simp) ?_
      refine AllReadyH.cons rfl (fun K hK => ?_) AllReadyH.nil
      go_simp
      go_wp2_with fail
      refine hK.out _ _ (D2.out.alloc D2.out.size _) (fun hS => ?_)
      clear hK K hS
      (try simp only [Act.put, List.setIfInBounds_toArray, List.set_cons_zero, List.set_cons_succ])
      refine wpAnyH_ready (rs := [5]) (by kernel_rfl) (by simp) ?_
      refine AllReadyH.cons rfl (fun K hK => ?_) AllReadyH.nil
      refine wp_store91 (.tmp 5) (.tmp 22) rfl rfl rfl rfl rfl (RBox.new x2 #[.nilFunc, .nilFunc] 103) rfl rfl ?_
      intro x3 c3 k3
      have C3 := hide c3
      have K3 := hide k3
      have B3 := hide (show Below w1.heap.size w1 x3 from (D2.out.alloc D2.out.size _).trans (k3.below (Nat.le_trans D2.out.size (by simp)) (fun z hz q => by have := LO.out; omega)))
      clear c3 k3
      refine hK.out _ _ B3.out (fun hS => ?_)
      clear hK K hS
      (try simp only [Act.put])
      refine wpAnyH_done (by kernel_rfl) ?_ _
      go_wp2_with fail
      go_meet
      exact ⟨_, a5, rfl, C3.out, (FB.out.below (alloc_below x2 (.cells #[.nilFunc, .nilFunc] 103))).keep K3.out (by have := FB.out.1; omega), B3.out⟩
    · go_simp
      go_wp2_with fail
      refine hK.out _ _ (D1.out.alloc D1.out.size _) (fun hS => ?_)
      clear hK K hS
      (try simp only [Act.put, List.setIfInBounds_toArray, List.set_cons_zero, List.set_cons_succ])
      have TB := hide (RBox.new x1 #[.nilFunc, .nilFunc] 103)
      have LO := hide (show w1.heap.size ≤ x1.heap.size from D1.out.size)
      have D1b := hide (D1.out.alloc D1.out.size (.cells #[.nilFunc, .nilFunc] 103))
      clear D1
      generalize x1.heap.size = tb at *
      refine wpAnyH_ready (rs := [0]) (by kernel_rfl) (by simp) ?_
      refine AllReadyH.cons rfl (fun K hK => ?_) AllReadyH.nil
      go_simp
      go_wp2_with fail
      refine (rules_any _).mono ?_
      rintro e x2 ⟨a3, a4, a5, a6, a7, rfl, c3, c4, c5, c6, c7, hb⟩
      have FB := hide c5
      have D2 := hide (D1b.out.trans (hb.mono D1b.out.size))
      have T2 := hide (TB.out.below hb)
      have NE := hide (show ¬ a5 = tb from fun q => by have e := (FB.out.get 0 _ rfl).1; rw [q] at e; have e2 := (T2.out.cells.get 0 _ rfl).1; rw [e] at e2; cases e2)
      clear c3 c4 c5 c6 c7 hb
      go_wp2_with fail
      refine hK.out _ _ D2.out (fun hS => ?_)
      clear hK K D1b TB
      (try simp only [Act.put, List.setIfInBounds_toArray, List.set_cons_zero, List.set_cons_succ])
      refine take_at 3 (some 22) (v := ?_) rfl rfl (by kernel_rfl) (by kernel_rfl) (by kernel_rfl) (fun _ _ _ h => h) ⟨by rfl, ?_⟩ hS ?_
      rotate_left
      · intro wq hSw; go_simp; try rfl
      simp only [Act.put, List.setIfInBounds_toArray, List.set_cons_zero, List.set_cons_succ]
      clear hS
      refine wpAnyH_ready (rs := [5]) (by kernel_rfl) (by simp) ?_
      refine AllReadyH.cons rfl (fun K hK => ?_) AllReadyH.nil
      refine wp_store91 (.tmp 5) (.tmp 22) rfl rfl rfl rfl rfl T2.out rfl rfl ?_
      intro x3 c3 k3
      have C3 := hide c3
      have K3 := hide k3
      have B3 := hide (show Below w1.heap.size w1 x3 from (D2.out).trans (k3.below (Nat.le_trans D2.out.size (Nat.le_refl _)) (fun z hz q => by have := LO.out; omega)))
      clear c3 k3
      refine hK.out _ _ B3.out (fun hS => ?_)
      clear hK K hS
      (try simp only [Act.put])
      refine wpAnyH_done (by kernel_rfl) ?_ _
      go_wp2_with fail
      go_meet
      exact ⟨_, a5, rfl, C3.out, FB.out.keep K3.out NE.out, B3.out⟩
  case rest =>
    obtain ⟨B, fb, rfl, cB, cF, hb⟩ := hcut
    have HP2 := hide (HP.out.below hb)
    have HX2 := hide (HX.out.below hb)
    have HB2 := hide (HB.out.trans (hb.mono HB.out.size))
    have CB := hide cB
    have CF := hide cF
    clear cF
    obtain ⟨b0, -⟩ := cB.get 0 _ rfl
    clear cB hb HP HX HB
    go_wp2_with (refine wpList_load51 HX2.out HA.out.sz rfl ?_)
    refine (KC fb _ HP2.out CF.out).mono ?_
    rintro e w3 ⟨rfl, hb3⟩
    have HP3 := hide (HP2.out.below hb3)
    have HX3 := hide (HX2.out.below hb3)
    have HB3 := hide (HB2.out.trans (hb3.mono HB2.out.size))
    obtain ⟨b1, -⟩ := (CB.out.below hb3).get 1 _ rfl
    clear hb3 HP2 HX2 HB2 CB b0 CF KC
    by_cases hz : E = 0
    · have d : (E != 0) = false := by simpa using hz
      have HE := hide hz
      clear hz
      obtain ⟨x, hg, hT⟩ := HZ.out HE.out
      have HT := hide hT
      have K2 := KG x _ HP3.out hg (by rw [← hT]; exact HOK.out)
      clear KG HZ hT hg
      go_wp2_with (refine wpList_load51 HX3.out HA.out.sz rfl ?_)
      refine K2.mono ?_
      rintro e w4 ⟨rfl, p4, k4⟩
      have P4 := hide p4
      have K4 := hide k4
      clear p4 k4 K2
      go_wp2_with fail
      go_ret
      exact ⟨by rw [HE.out]; rfl, by rw [HT.out]; exact P4.out, (Keep.of_below HB3.out).trans K4.out (fun _ _ q => q)⟩
    · have d : (E != 0) = true := by simpa using hz
      have HT := hide (HS.out hz)
      clear hz KG
      go_wp2_with fail
      go_ret
      exact ⟨rfl, by rw [HT.out]; exact HP3.out, Keep.of_below HB3.out⟩
set_option maxHeartbeats 4000000 in
theorem note6 (b m : Nat) (t : TbM) (rc : Array Value) (lsn k tx prev : Int) (w : World) (h : PT w b m t) (hr : RecA rc lsn k tx prev) (hl : isLsn lsn = true) (hk : k = 6) : Calls Tryz.prog 30 #[ptr b, .agg rc] w (NotePost b m t lsn k tx prev w) := by
  unfold NotePost
  have KL := fun w => mayLsn_any lsn w
  subst hk
  rw [hl] at KL
  have eN := note_pass (t := t) (k := 6) (tx := tx) (prev := prev) hl (by omega) (by omega)
  have HOK := hide (h.ok.noteT lsn 6 tx prev)
  have HZ := hide (show t.chainE lsn 6 tx prev = 0 → ∃ x, getT t.L tx = some x ∧ t.noteT lsn 6 tx prev = ⟨setT t.L ⟨tx, lsn, false, true⟩, t.next⟩ from fun q => by
    obtain ⟨x, hx1, hx2, hx3⟩ := chain_some q
    refine ⟨x, hx1, ?_⟩
    rw [note_go (by rw [eN]; exact q), went_chain hx1 (by omega) (by omega), show gone 6 lsn x = ⟨tx, lsn, false, true⟩ by obtain ⟨c1, c2, c3, c4⟩ := x; cases c3 <;> cases c4 <;> simp_all [gone, fitsK]])
  have KG := fun (x : Lv) w' (h : PT w' b m t) (hg : getT t.L tx = some x) (hok : TbM.Ok ⟨setT t.L ⟨tx, lsn, false, true⟩, t.next⟩) => turnsBack_any b m t rc lsn 6 tx prev x w' h hr hg hok
  have HS := hide (show t.chainE lsn 6 tx prev ≠ 0 → t.noteT lsn 6 tx prev = t from fun q => note_stay (by rw [eN]; exact q))
  have KC := fun fb w' (h : PT w' b m t) (hf : Cells w' fb [fv 66]) => chained47_any b m t rc lsn 6 tx prev fb w' h hr hf (fun x => rfl)
  rw [eN]
  clear eN
  generalize t.chainE lsn 6 tx prev = E at *
  generalize t.noteT lsn 6 tx prev = T' at *
  obtain ⟨y0, y1, -, -⟩ := (hr.box (RBox.new w rc 55))
  have HLS := hide hl
  have HA := hide hr
  have HP0 := hide h
  clear h hr hl
  go_enter Tryz.func30, Tryz.ntmps30
  go_upto_region 5 with (go_at_call 45; refine (KL _).mono ?_; rintro e wz ⟨rfl, rfl⟩)
  refine named (P := Code.wp _ _ _ _) ?_
  intro w1 hw1
  obtain ⟨rb, hrb⟩ : ∃ rb, rb = w.heap.size := ⟨_, rfl⟩
  have HP := hide (show PT w1 b m t by rw [hw1]; exact HP0.out.below (alloc_below _ _))
  have HX := hide (show RBox w1 rb 55 rc by rw [hw1, hrb]; exact RBox.new _ _ _)
  have HB := hide (show Below w.heap.size w w1 by rw [hw1]; exact alloc_below _ _)
  rw [← hrb]
  clear hw1 hrb HP0 y0 y1
  go_cut [5] (fun v w' => ∃ B fb, v = ptr B ∧ Cells w' B [cv fb, fv 70] ∧ Cells w' fb [fv 66] ∧ Below w1.heap.size w1 w')
  case first =>
    refine wp_region_held_drew (S := fun wq => Below w1.heap.size w1 wq) (by kernel_rfl) (Below.refl _ _).drew (fun hS => ?_)
    refine take_at 1 (some 20) (v := ?_) rfl rfl (by kernel_rfl) (by kernel_rfl) (by kernel_rfl) (fun _ _ _ h => h) ⟨by rfl, ?_⟩ hS ?_
    rotate_left
    · intro wq hSw; go_simp; try rfl
    simp only [Act.put, List.setIfInBounds_toArray, List.set_cons_zero, List.set_cons_succ]
    refine take_at 2 (some 21) (v := ?_) rfl rfl (by kernel_rfl) (by kernel_rfl) (by kernel_rfl) (fun _ _ _ h => h) ⟨by rfl, ?_⟩ hS ?_
    rotate_left
    · intro wq hSw; have q := (HA.out.box (HX.out.below hSw)).2.1; go_simp; try rfl
    simp only [Act.put, List.setIfInBounds_toArray, List.set_cons_zero, List.set_cons_succ]
    have D1 := hide hS
    clear hS
    generalize w1.drew = x1 at *
    refine wpAnyH_ready (rs := [0, 4]) (by kernel_rfl) (by simp) ?_
    refine AllReadyH.cons rfl (fun K hK => ?_) (AllReadyH.cons rfl (fun K hK => ?_) AllReadyH.nil)
    · go_simp
      go_wp2_with fail
      refine (rules_any _).mono ?_
      rintro e x2 ⟨a3, a4, a5, a6, a7, rfl, c3, c4, c5, c6, c7, hb⟩
      have FB := hide c6
      have LO := hide (show w1.heap.size ≤ x2.heap.size from Nat.le_trans D1.out.size hb.size)
      have D2 := hide (D1.out.trans (hb.mono D1.out.size))
      clear c3 c4 c5 c6 c7 hb
      go_wp2_with fail
      refine hK.out _ _ D2.out (fun hS => ?_)
      clear hK K D1
      (try simp only [Act.put, List.setIfInBounds_toArray, List.set_cons_zero, List.set_cons_succ])
      refine take_at 3 (some 22) (v := ?_) rfl rfl (by kernel_rfl) (by kernel_rfl) (by kernel_rfl) (fun _ _ _ h => h) ⟨by rfl, ?_⟩ hS ?_
      rotate_left
      · intro wq hSw; go_simp; try rfl
      simp only [Act.put, List.setIfInBounds_toArray, List.set_cons_zero, List.set_cons_succ]
      clear hS
      refine wpAnyH_ready (rs := [4]) (by kernel_rfl) (by simp) ?_
      refine AllReadyH.cons rfl (fun K hK => ?_) AllReadyH.nil
      go_simp
      go_wp2_with fail
      refine hK.out _ _ (D2.out.alloc D2.out.size _) (fun hS => ?_)
      clear hK K hS
      (try simp only [Act.put, List.setIfInBounds_toArray, List.set_cons_zero, List.set_cons_succ])
      refine wpAnyH_ready (rs := [5]) (by kernel_rfl) (by simp) ?_
      refine AllReadyH.cons rfl (fun K hK => ?_) AllReadyH.nil
      refine wp_store91 (.tmp 5) (.tmp 22) rfl rfl rfl rfl rfl (RBox.new x2 #[.nilFunc, .nilFunc] 103) rfl rfl ?_
      intro x3 c3 k3
      have C3 := hide c3
      have K3 := hide k3
      have B3 := hide (show Below w1.heap.size w1 x3 from (D2.out.alloc D2.out.size _).trans (k3.below (Nat.le_trans D2.out.size (by simp)) (fun z hz q => by have := LO.out; omega)))
      clear c3 k3
      refine hK.out _ _ B3.out (fun hS => ?_)
      clear hK K hS
      (try simp only [Act.put])
      refine wpAnyH_done (by kernel_rfl) ?_ _
      go_wp2_with fail
      go_meet
      exact ⟨_, a6, rfl, C3.out, (FB.out.below (alloc_below x2 (.cells #[.nilFunc, .nilFunc] 103))).keep K3.out (by have := FB.out.1; omega), B3.out⟩
    · go_simp
      go_wp2_with fail
      refine hK.out _ _ (D1.out.alloc D1.out.size _) (fun hS => ?_)
      clear hK K hS
      (try simp only [Act.put, List.setIfInBounds_toArray, List.set_cons_zero, List.set_cons_succ])
      have TB := hide (RBox.new x1 #[.nilFunc, .nilFunc] 103)
      have LO := hide (show w1.heap.size ≤ x1.heap.size from D1.out.size)
      have D1b := hide (D1.out.alloc D1.out.size (.cells #[.nilFunc, .nilFunc] 103))
      clear D1
      generalize x1.heap.size = tb at *
      refine wpAnyH_ready (rs := [0]) (by kernel_rfl) (by simp) ?_
      refine AllReadyH.cons rfl (fun K hK => ?_) AllReadyH.nil
      go_simp
      go_wp2_with fail
      refine (rules_any _).mono ?_
      rintro e x2 ⟨a3, a4, a5, a6, a7, rfl, c3, c4, c5, c6, c7, hb⟩
      have FB := hide c6
      have D2 := hide (D1b.out.trans (hb.mono D1b.out.size))
      have T2 := hide (TB.out.below hb)
      have NE := hide (show ¬ a6 = tb from fun q => by have e := (FB.out.get 0 _ rfl).1; rw [q] at e; have e2 := (T2.out.cells.get 0 _ rfl).1; rw [e] at e2; cases e2)
      clear c3 c4 c5 c6 c7 hb
      go_wp2_with fail
      refine hK.out _ _ D2.out (fun hS => ?_)
      clear hK K D1b TB
      (try simp only [Act.put, List.setIfInBounds_toArray, List.set_cons_zero, List.set_cons_succ])
      refine take_at 3 (some 22) (v := ?_) rfl rfl (by kernel_rfl) (by kernel_rfl) (by kernel_rfl) (fun _ _ _ h => h) ⟨by rfl, ?_⟩ hS ?_
      rotate_left
      · intro wq hSw; go_simp; try rfl
      simp only [Act.put, List.setIfInBounds_toArray, List.set_cons_zero, List.set_cons_succ]
      clear hS
      refine wpAnyH_ready (rs := [5]) (by kernel_rfl) (by simp) ?_
      refine AllReadyH.cons rfl (fun K hK => ?_) AllReadyH.nil
      refine wp_store91 (.tmp 5) (.tmp 22) rfl rfl rfl rfl rfl T2.out rfl rfl ?_
      intro x3 c3 k3
      have C3 := hide c3
      have K3 := hide k3
      have B3 := hide (show Below w1.heap.size w1 x3 from (D2.out).trans (k3.below (Nat.le_trans D2.out.size (Nat.le_refl _)) (fun z hz q => by have := LO.out; omega)))
      clear c3 k3
      refine hK.out _ _ B3.out (fun hS => ?_)
      clear hK K hS
      (try simp only [Act.put])
      refine wpAnyH_done (by kernel_rfl) ?_ _
      go_wp2_with fail
      go_meet
      exact ⟨_, a6, rfl, C3.out, FB.out.keep K3.out NE.out, B3.out⟩
  case rest =>
    obtain ⟨B, fb, rfl, cB, cF, hb⟩ := hcut
    have HP2 := hide (HP.out.below hb)
    have HX2 := hide (HX.out.below hb)
    have HB2 := hide (HB.out.trans (hb.mono HB.out.size))
    have CB := hide cB
    have CF := hide cF
    clear cF
    obtain ⟨b0, -⟩ := cB.get 0 _ rfl
    clear cB hb HP HX HB
    go_wp2_with (refine wpList_load51 HX2.out HA.out.sz rfl ?_)
    refine (KC fb _ HP2.out CF.out).mono ?_
    rintro e w3 ⟨rfl, hb3⟩
    have HP3 := hide (HP2.out.below hb3)
    have HX3 := hide (HX2.out.below hb3)
    have HB3 := hide (HB2.out.trans (hb3.mono HB2.out.size))
    obtain ⟨b1, -⟩ := (CB.out.below hb3).get 1 _ rfl
    clear hb3 HP2 HX2 HB2 CB b0 CF KC
    by_cases hz : E = 0
    · have d : (E != 0) = false := by simpa using hz
      have HE := hide hz
      clear hz
      obtain ⟨x, hg, hT⟩ := HZ.out HE.out
      have HT := hide hT
      have K2 := KG x _ HP3.out hg (by rw [← hT]; exact HOK.out)
      clear KG HZ hT hg
      go_wp2_with (refine wpList_load51 HX3.out HA.out.sz rfl ?_)
      refine K2.mono ?_
      rintro e w4 ⟨rfl, p4, k4⟩
      have P4 := hide p4
      have K4 := hide k4
      clear p4 k4 K2
      go_wp2_with fail
      go_ret
      exact ⟨by rw [HE.out]; rfl, by rw [HT.out]; exact P4.out, (Keep.of_below HB3.out).trans K4.out (fun _ _ q => q)⟩
    · have d : (E != 0) = true := by simpa using hz
      have HT := hide (HS.out hz)
      clear hz KG
      go_wp2_with fail
      go_ret
      exact ⟨rfl, by rw [HT.out]; exact HP3.out, Keep.of_below HB3.out⟩
set_option maxHeartbeats 4000000 in
theorem note7 (b m : Nat) (t : TbM) (rc : Array Value) (lsn k tx prev : Int) (w : World) (h : PT w b m t) (hr : RecA rc lsn k tx prev) (hl : isLsn lsn = true) (hk : k = 7) : Calls Tryz.prog 30 #[ptr b, .agg rc] w (NotePost b m t lsn k tx prev w) := by
  unfold NotePost
  have KL := fun w => mayLsn_any lsn w
  subst hk
  rw [hl] at KL
  have eN := note_pass (t := t) (k := 7) (tx := tx) (prev := prev) hl (by omega) (by omega)
  have HOK := hide (h.ok.noteT lsn 7 tx prev)
  have HZ := hide (show t.chainE lsn 7 tx prev = 0 → t.noteT lsn 7 tx prev = ⟨delT t.L tx, t.next⟩ from fun q => by rw [note_go (by rw [eN]; exact q)]; rfl)
  have KG := fun w' (h : PT w' b m t) => ends_any b m t rc lsn 7 tx prev w' h hr
  have HS := hide (show t.chainE lsn 7 tx prev ≠ 0 → t.noteT lsn 7 tx prev = t from fun q => note_stay (by rw [eN]; exact q))
  have KC := fun fb w' (h : PT w' b m t) (hf : Cells w' fb [fv 71]) => chained52_any b m t rc lsn 7 tx prev fb w' h hr hf (fun x => rfl)
  rw [eN]
  clear eN
  generalize t.chainE lsn 7 tx prev = E at *
  generalize t.noteT lsn 7 tx prev = T' at *
  obtain ⟨y0, y1, -, -⟩ := (hr.box (RBox.new w rc 55))
  have HLS := hide hl
  have HA := hide hr
  have HP0 := hide h
  clear h hr hl
  go_enter Tryz.func30, Tryz.ntmps30
  go_upto_region 5 with (go_at_call 45; refine (KL _).mono ?_; rintro e wz ⟨rfl, rfl⟩)
  refine named (P := Code.wp _ _ _ _) ?_
  intro w1 hw1
  obtain ⟨rb, hrb⟩ : ∃ rb, rb = w.heap.size := ⟨_, rfl⟩
  have HP := hide (show PT w1 b m t by rw [hw1]; exact HP0.out.below (alloc_below _ _))
  have HX := hide (show RBox w1 rb 55 rc by rw [hw1, hrb]; exact RBox.new _ _ _)
  have HB := hide (show Below w.heap.size w w1 by rw [hw1]; exact alloc_below _ _)
  rw [← hrb]
  clear hw1 hrb HP0 y0 y1
  go_cut [5] (fun v w' => ∃ B fb, v = ptr B ∧ Cells w' B [cv fb, fv 72] ∧ Cells w' fb [fv 71] ∧ Below w1.heap.size w1 w')
  case first =>
    refine wp_region_held_drew (S := fun wq => Below w1.heap.size w1 wq) (by kernel_rfl) (Below.refl _ _).drew (fun hS => ?_)
    refine take_at 1 (some 20) (v := ?_) rfl rfl (by kernel_rfl) (by kernel_rfl) (by kernel_rfl) (fun _ _ _ h => h) ⟨by rfl, ?_⟩ hS ?_
    rotate_left
    · intro wq hSw; go_simp; try rfl
    simp only [Act.put, List.setIfInBounds_toArray, List.set_cons_zero, List.set_cons_succ]
    refine take_at 2 (some 21) (v := ?_) rfl rfl (by kernel_rfl) (by kernel_rfl) (by kernel_rfl) (fun _ _ _ h => h) ⟨by rfl, ?_⟩ hS ?_
    rotate_left
    · intro wq hSw; have q := (HA.out.box (HX.out.below hSw)).2.1; go_simp; try rfl
    simp only [Act.put, List.setIfInBounds_toArray, List.set_cons_zero, List.set_cons_succ]
    have D1 := hide hS
    clear hS
    generalize w1.drew = x1 at *
    refine wpAnyH_ready (rs := [0, 4]) (by kernel_rfl) (by simp) ?_
    refine AllReadyH.cons rfl (fun K hK => ?_) (AllReadyH.cons rfl (fun K hK => ?_) AllReadyH.nil)
    · go_simp
      go_wp2_with fail
      refine (rules_any _).mono ?_
      rintro e x2 ⟨a3, a4, a5, a6, a7, rfl, c3, c4, c5, c6, c7, hb⟩
      have FB := hide c7
      have LO := hide (show w1.heap.size ≤ x2.heap.size from Nat.le_trans D1.out.size hb.size)
      have D2 := hide (D1.out.trans (hb.mono D1.out.size))
      clear c3 c4 c5 c6 c7 hb
      go_wp2_with fail
      refine hK.out _ _ D2.out (fun hS => ?_)
      clear hK K D1
      (try simp only [Act.put, List.setIfInBounds_toArray, List.set_cons_zero, List.set_cons_succ])
      refine take_at 3 (some 22) (v := ?_) rfl rfl (by kernel_rfl) (by kernel_rfl) (by kernel_rfl) (fun _ _ _ h => h) ⟨by rfl, ?_⟩ hS ?_
      rotate_left
      · intro wq hSw; go_simp; try rfl
      simp only [Act.put, List.setIfInBounds_toArray, List.set_cons_zero, List.set_cons_succ]
      clear hS
      refine wpAnyH_ready (rs := [4]) (by kernel_rfl) (by simp) ?_
      refine AllReadyH.cons rfl (fun K hK => ?_) AllReadyH.nil
      go_simp
      go_wp2_with fail
      refine hK.out _ _ (D2.out.alloc D2.out.size _) (fun hS => ?_)
      clear hK K hS
      (try simp only [Act.put, List.setIfInBounds_toArray, List.set_cons_zero, List.set_cons_succ])
      refine wpAnyH_ready (rs := [5]) (by kernel_rfl) (by simp) ?_
      refine AllReadyH.cons rfl (fun K hK => ?_) AllReadyH.nil
      refine wp_store91 (.tmp 5) (.tmp 22) rfl rfl rfl rfl rfl (RBox.new x2 #[.nilFunc, .nilFunc] 103) rfl rfl ?_
      intro x3 c3 k3
      have C3 := hide c3
      have K3 := hide k3
      have B3 := hide (show Below w1.heap.size w1 x3 from (D2.out.alloc D2.out.size _).trans (k3.below (Nat.le_trans D2.out.size (by simp)) (fun z hz q => by have := LO.out; omega)))
      clear c3 k3
      refine hK.out _ _ B3.out (fun hS => ?_)
      clear hK K hS
      (try simp only [Act.put])
      refine wpAnyH_done (by kernel_rfl) ?_ _
      go_wp2_with fail
      go_meet
      exact ⟨_, a7, rfl, C3.out, (FB.out.below (alloc_below x2 (.cells #[.nilFunc, .nilFunc] 103))).keep K3.out (by have := FB.out.1; omega), B3.out⟩
    · go_simp
      go_wp2_with fail
      refine hK.out _ _ (D1.out.alloc D1.out.size _) (fun hS => ?_)
      clear hK K hS
      (try simp only [Act.put, List.setIfInBounds_toArray, List.set_cons_zero, List.set_cons_succ])
      have TB := hide (RBox.new x1 #[.nilFunc, .nilFunc] 103)
      have LO := hide (show w1.heap.size ≤ x1.heap.size from D1.out.size)
      have D1b := hide (D1.out.alloc D1.out.size (.cells #[.nilFunc, .nilFunc] 103))
      clear D1
      generalize x1.heap.size = tb at *
      refine wpAnyH_ready (rs := [0]) (by kernel_rfl) (by simp) ?_
      refine AllReadyH.cons rfl (fun K hK => ?_) AllReadyH.nil
      go_simp
      go_wp2_with fail
      refine (rules_any _).mono ?_
      rintro e x2 ⟨a3, a4, a5, a6, a7, rfl, c3, c4, c5, c6, c7, hb⟩
      have FB := hide c7
      have D2 := hide (D1b.out.trans (hb.mono D1b.out.size))
      have T2 := hide (TB.out.below hb)
      have NE := hide (show ¬ a7 = tb from fun q => by have e := (FB.out.get 0 _ rfl).1; rw [q] at e; have e2 := (T2.out.cells.get 0 _ rfl).1; rw [e] at e2; cases e2)
      clear c3 c4 c5 c6 c7 hb
      go_wp2_with fail
      refine hK.out _ _ D2.out (fun hS => ?_)
      clear hK K D1b TB
      (try simp only [Act.put, List.setIfInBounds_toArray, List.set_cons_zero, List.set_cons_succ])
      refine take_at 3 (some 22) (v := ?_) rfl rfl (by kernel_rfl) (by kernel_rfl) (by kernel_rfl) (fun _ _ _ h => h) ⟨by rfl, ?_⟩ hS ?_
      rotate_left
      · intro wq hSw; go_simp; try rfl
      simp only [Act.put, List.setIfInBounds_toArray, List.set_cons_zero, List.set_cons_succ]
      clear hS
      refine wpAnyH_ready (rs := [5]) (by kernel_rfl) (by simp) ?_
      refine AllReadyH.cons rfl (fun K hK => ?_) AllReadyH.nil
      refine wp_store91 (.tmp 5) (.tmp 22) rfl rfl rfl rfl rfl T2.out rfl rfl ?_
      intro x3 c3 k3
      have C3 := hide c3
      have K3 := hide k3
      have B3 := hide (show Below w1.heap.size w1 x3 from (D2.out).trans (k3.below (Nat.le_trans D2.out.size (Nat.le_refl _)) (fun z hz q => by have := LO.out; omega)))
      clear c3 k3
      refine hK.out _ _ B3.out (fun hS => ?_)
      clear hK K hS
      (try simp only [Act.put])
      refine wpAnyH_done (by kernel_rfl) ?_ _
      go_wp2_with fail
      go_meet
      exact ⟨_, a7, rfl, C3.out, FB.out.keep K3.out NE.out, B3.out⟩
  case rest =>
    obtain ⟨B, fb, rfl, cB, cF, hb⟩ := hcut
    have HP2 := hide (HP.out.below hb)
    have HX2 := hide (HX.out.below hb)
    have HB2 := hide (HB.out.trans (hb.mono HB.out.size))
    have CB := hide cB
    have CF := hide cF
    clear cF
    obtain ⟨b0, -⟩ := cB.get 0 _ rfl
    clear cB hb HP HX HB
    go_wp2_with (refine wpList_load51 HX2.out HA.out.sz rfl ?_)
    refine (KC fb _ HP2.out CF.out).mono ?_
    rintro e w3 ⟨rfl, hb3⟩
    have HP3 := hide (HP2.out.below hb3)
    have HX3 := hide (HX2.out.below hb3)
    have HB3 := hide (HB2.out.trans (hb3.mono HB2.out.size))
    obtain ⟨b1, -⟩ := (CB.out.below hb3).get 1 _ rfl
    clear hb3 HP2 HX2 HB2 CB b0 CF KC
    by_cases hz : E = 0
    · have d : (E != 0) = false := by simpa using hz
      have HE := hide hz
      clear hz
      have HT := hide (HZ.out HE.out)
      have K2 := KG _ HP3.out
      clear KG HZ
      go_wp2_with (refine wpList_load51 HX3.out HA.out.sz rfl ?_)
      refine K2.mono ?_
      rintro e w4 ⟨rfl, p4, k4⟩
      have P4 := hide p4
      have K4 := hide k4
      clear p4 k4 K2
      go_wp2_with fail
      go_ret
      exact ⟨by rw [HE.out]; rfl, by rw [HT.out]; exact P4.out, (Keep.of_below HB3.out).trans K4.out (fun _ _ q => q)⟩
    · have d : (E != 0) = true := by simpa using hz
      have HT := hide (HS.out hz)
      clear hz KG
      go_wp2_with fail
      go_ret
      exact ⟨rfl, by rw [HT.out]; exact HP3.out, Keep.of_below HB3.out⟩
theorem note_any (b m : Nat) (t : TbM) (rc : Array Value) (lsn k tx prev : Int) (w : World) (h : PT w b m t) (hr : RecA rc lsn k tx prev) : Calls Tryz.prog 30 #[ptr b, .agg rc] w (NotePost b m t lsn k tx prev w) := by
  cases hl : isLsn lsn with
  | false => exact note_place b m t rc lsn k tx prev w h hr hl
  | true =>
    by_cases hk : k < 1 ∨ 8 < k
    · exact note_kind b m t rc lsn k tx prev w h hr hl hk
    · by_cases k1 : k = 1
      · exact note1 b m t rc lsn k tx prev w h hr hl k1
      · by_cases k2 : k = 2
        · exact note2 b m t rc lsn k tx prev w h hr hl k2
        · by_cases k3 : k = 3
          · exact note3 b m t rc lsn k tx prev w h hr hl k3
          · by_cases k4 : k = 4
            · exact note4 b m t rc lsn k tx prev w h hr hl k4
            · by_cases k5 : k = 5
              · exact note5 b m t rc lsn k tx prev w h hr hl k5
              · by_cases k6 : k = 6
                · exact note6 b m t rc lsn k tx prev w h hr hl k6
                · by_cases k7 : k = 7
                  · exact note7 b m t rc lsn k tx prev w h hr hl k7
                  · exact note8 b m t rc lsn k tx prev w h hr hl (by omega)
end Go.Proofs.YtblngphjoafidaaGreat
