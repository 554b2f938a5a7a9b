import Derived.Test.YtaohdmaenplbpaaGreatEc6
namespace Go.Proofs.YtaohdmaenplbpaaGreat
open Go.RowKit Go.QK Quota Go.Maps
set_option maxRecDepth 100000

theorem mayE_zero {e : Esc} {tx d : Int} (h : mayE e tx d = 0) : 1 ≤ tx ∧ tx ≤ 2147483647 ∧ e.lo ≤ mLow e tx d ∧ mHigh e tx d ≤ e.hi ∧ I64 (netV e.nets tx + d) := by
  unfold mayE at h
  split at h
  · cases h
  · split at h
    · cases h
    · split at h
      · rename_i h1 h2 h3
        have := fitB_true.1 h3
        exact ⟨by omega, by omega, by omega, by omega, this⟩
      · cases h
theorem addN_yes {e : Esc} {tx d : Int} (h : mayE e tx d = 0) : addN e tx d = { e with nets := putN tx (netV e.nets tx + d) e.nets } := by unfold addN; rw [if_pos h]
theorem addN_no {e : Esc} {tx d : Int} (h : mayE e tx d ≠ 0) : addN e tx d = e := by unfold addN; rw [if_neg h]
theorem addN_low {e : Esc} (ok : e.Ok) {tx d : Int} (h : mayE e tx d = 0) : (addN e tx d).low = mLow e tx d ∧ (addN e tx d).high = mHigh e tx d := by
  rw [addN_yes h]
  unfold Esc.low Esc.high mLow mHigh Esc.low Esc.high
  simp only [lowS, highS]
  rw [sumF_put neg0 (by simp [neg0]) _ _ ok.rise, sumF_put pos0 (by simp [pos0]) _ _ ok.rise]
  omega
theorem addN_ok {e : Esc} (ok : e.Ok) (tx d : Int) : (addN e tx d).Ok := by
  by_cases h : mayE e tx d = 0
  · obtain ⟨h1, h2, h3, h4, h5⟩ := mayE_zero h
    obtain ⟨l1, l2⟩ := addN_low ok h
    have hlo : (addN e tx d).lo = e.lo ∧ (addN e tx d).hi = e.hi := by rw [addN_yes h]; exact ⟨rfl, rfl⟩
    have hne : (addN e tx d).nets = putN tx (netV e.nets tx + d) e.nets := by rw [addN_yes h]
    refine ⟨by rw [hlo.1]; exact ok.i1, by rw [hlo.2]; exact ok.i2, by rw [hlo.1, l1]; exact h3, by rw [hlo.2, l2]; exact h4, by rw [hne]; exact ok.rise.put _ _, ?_, ?_⟩
    · rw [hne]
      intro p hp
      rcases mem_putN hp with rfl | hp
      · exact ⟨h1, h2⟩
      · exact ok.keys p hp
    · rw [hne]
      intro p hp
      rcases mem_putN hp with rfl | hp
      · exact h5
      · exact ok.all p hp
  · rw [addN_no h]; exact ok

abbrev two (b m : Nat) : Nat → Prop := fun x => x = b ∨ x = m

set_option maxHeartbeats 2000000 in
theorem add_no (b m : Nat) (e : Esc) (tx d : Int) (w : World) (h : PE w b m e) (hx : I64 tx) (hd : I64 d) (hz : mayE e tx d ≠ 0) :
    Calls Tryz.prog 28 #[ptr b, .int .i64 tx, .int .i64 d] w fun r w' => r = .returned (.int .i64 (mayE e tx d)) ∧ Keep (two b m) w w' ∧ PE w' b m (addN e tx d) := by
  have K := weigh_any b m e tx d w h hx hd
  rw [addN_no hz]
  generalize wN e tx d = n0 at *
  generalize wL e tx d = l0 at *
  generalize wH e tx d = h0 at *
  generalize mayE e tx d = m0 at *
  have hne : (m0 != 0) = true := by simpa using hz
  have hne2 : (m0 == 0) = false := by simpa using hz
  have HP := hide h
  clear h hx hd
  go_enter Tryz.func28, Tryz.ntmps28
  go_wp2_with fail
  refine K.mono ?_
  rintro r w1 ⟨rfl, hb⟩
  have H1 := hide hb
  clear hb
  go_wp2_with fail
  go_ret
  have b2 := H1.out.alloc H1.out.size (.cells #[.int .i64 l0, .int .i64 h0] 38)
  exact ⟨rfl, Keep.of_below b2, HP.out.below b2⟩

set_option maxHeartbeats 4000000 in
theorem add_yes (b m : Nat) (e : Esc) (tx d : Int) (w : World) (h : PE w b m e) (hx : I64 tx) (hd : I64 d) (hl : e.nets.length < 1000000000) (hz : mayE e tx d = 0) :
    Calls Tryz.prog 28 #[ptr b, .int .i64 tx, .int .i64 d] w fun r w' => r = .returned (.int .i64 (mayE e tx d)) ∧ Keep (two b m) w w' ∧ PE w' b m (addN e tx d) := by
  have K := weigh_any b m e tx d w h hx hd
  have hE := addN_yes hz
  obtain ⟨l1, l2⟩ := addN_low h.ok hz
  have ok' := addN_ok h.ok tx d
  obtain ⟨_, _, _, _, hn⟩ := mayE_zero hz
  have e1 : wN e tx d = netV e.nets tx + d := by unfold wN; rw [if_pos hz]
  have e2 : wL e tx d = (addN e tx d).low := by unfold wL; rw [if_pos hz, l1]
  have e3 : wH e tx d = (addN e tx d).high := by unfold wH; rw [if_pos hz, l2]
  rw [e1, e2, e3, hz] at K
  rw [hz]
  obtain ⟨f, hf⟩ : ∃ f, f = addN e tx d := ⟨_, rfl⟩
  rw [← hf] at K ok' hE ⊢
  have HE := hide hE
  have HOK := hide ok'
  have HN := hide hn
  have HX := hide hx
  have HL := hide hl
  have HP := hide h
  have hne := h.ne
  have hbm := h.lt
  generalize netV e.nets tx + d = n at *
  generalize hL : f.low = L at *
  generalize hH : f.high = H at *
  have HLH := hide (And.intro hL hH)
  clear h hx hd hl hz hf l1 l2 e1 e2 e3 hE ok' hn hL hH
  go_enter Tryz.func28, Tryz.ntmps28
  go_wp2_with fail
  refine K.mono ?_
  rintro r w1 ⟨rfl, hb⟩
  have b2 := hide (hb.alloc hb.size (.cells #[.int .i64 L, .int .i64 H] 38))
  have C2 := hide (Box.new w1 (.int .i64 L) (.int .i64 H) 38)
  have hsz := hb.size
  clear hb K
  go_upto_region 4 with fail
  obtain ⟨w2, hw2⟩ : ∃ w2, w2 = w1.alloc (.cells #[.int .i64 L, .int .i64 H] 38) := ⟨_, rfl⟩
  rw [← hw2] at b2 C2 ⊢
  clear hw2
  have P2 := hide (HP.out.below b2.out)
  obtain ⟨y0, y1, y2, y3, y4⟩ := C2.out
  have k5 := P2.out.c5
  refine wp_region_held_drew (S := fun wq => wq.cell? ⟨b, 5, none⟩ = some (.map (some m)) ∧ wq.cell? ⟨w1.heap.size, 0, none⟩ = some (.int .i64 L) ∧ wq.cell? ⟨w1.heap.size, 1, none⟩ = some (.int .i64 H)) (by kernel_rfl) ⟨k5, y1, y2⟩ (fun hS => ?_)
  have P3 := hide (P2.out.below (Below.refl _ _).drew)
  have C3 := hide (C2.out.below (Below.refl _ _).drew)
  have b3 := hide b2.out.drew
  clear y1 y2 y3 y4 k5 P2 C2 b2
  generalize w2.drew = w3 at *
  refine take_at 0 (some 21) (v := ?_) rfl rfl (by kernel_rfl) (by kernel_rfl) (by kernel_rfl) (fun _ _ _ h => h) ⟨by rfl, ?_⟩ hS ?_
  rotate_left
  · intro wq hSw; go_simp; try rfl
  simp only [Act.put, List.setIfInBounds_toArray, List.set_cons_zero, List.set_cons_succ]
  refine take_at 1 (some 22) (v := ?_) rfl rfl (by kernel_rfl) (by kernel_rfl) (by kernel_rfl) (fun _ _ _ h => h) ⟨by rfl, ?_⟩ hS ?_
  rotate_left
  · intro wq hSw; go_simp; try rfl
  simp only [Act.put, List.setIfInBounds_toArray, List.set_cons_zero, List.set_cons_succ]
  refine take_at 2 (some 23) (v := ?_) rfl rfl (by kernel_rfl) (by kernel_rfl) (by kernel_rfl) (fun _ _ _ h => h) ⟨by rfl, ?_⟩ hS ?_
  rotate_left
  · intro wq hSw; go_simp; try rfl
  simp only [Act.put, List.setIfInBounds_toArray, List.set_cons_zero, List.set_cons_succ]
  refine take_at 3 (some 24) (v := ?_) rfl rfl (by kernel_rfl) (by kernel_rfl) (by kernel_rfl) (fun _ _ _ h => h) ⟨by rfl, ?_⟩ hS ?_
  rotate_left
  · intro wq hSw; obtain ⟨r0, r1, r2⟩ := hSw; go_simp; try rfl
  simp only [Act.put, List.setIfInBounds_toArray, List.set_cons_zero, List.set_cons_succ]
  refine take_at 4 (some 25) (v := ?_) rfl rfl (by kernel_rfl) (by kernel_rfl) (by kernel_rfl) (fun _ _ _ h => h) ⟨by rfl, ?_⟩ hS ?_
  rotate_left
  · intro wq hSw; go_simp; try rfl
  simp only [Act.put, List.setIfInBounds_toArray, List.set_cons_zero, List.set_cons_succ]
  refine take_at 5 (some 26) (v := ?_) rfl rfl (by kernel_rfl) (by kernel_rfl) (by kernel_rfl) (fun _ _ _ h => h) ⟨by rfl, ?_⟩ hS ?_
  rotate_left
  · intro wq hSw; go_simp; try rfl
  simp only [Act.put, List.setIfInBounds_toArray, List.set_cons_zero, List.set_cons_succ]
  refine take_at 6 (some 27) (v := ?_) rfl rfl (by kernel_rfl) (by kernel_rfl) (by kernel_rfl) (fun _ _ _ h => h) ⟨by rfl, ?_⟩ hS ?_
  rotate_left
  · intro wq hSw; go_simp; try rfl
  simp only [Act.put, List.setIfInBounds_toArray, List.set_cons_zero, List.set_cons_succ]
  refine take_at 7 (some 28) (v := ?_) rfl rfl (by kernel_rfl) (by kernel_rfl) (by kernel_rfl) (fun _ _ _ h => h) ⟨by rfl, ?_⟩ hS ?_
  rotate_left
  · intro wq hSw; obtain ⟨r0, r1, r2⟩ := hSw; go_simp; try rfl
  simp only [Act.put, List.setIfInBounds_toArray, List.set_cons_zero, List.set_cons_succ]
  obtain ⟨v0, st, w4, hrun, hbut, hfill⟩ := P3.out.map.entry P3.out.ok.rise tx HX.out HL.out
  have HRUN := hide hrun
  have kp4 := hbut.keep
  have hG : w1.heap.size ≠ m := by omega
  have C4 := hide (show Box w4 w1.heap.size (.int .i64 L) (.int .i64 H) from ⟨Nat.lt_of_lt_of_le C3.out.1 kp4.size, (kp4.cell (p := ⟨w1.heap.size, 0, none⟩) C3.out.1 hG).trans C3.out.2.1, (kp4.cell (p := ⟨w1.heap.size, 1, none⟩) C3.out.1 hG).trans C3.out.2.2.1, (kp4.frozen (p := ⟨w1.heap.size, 0, none⟩) C3.out.1 hG).trans C3.out.2.2.2.1, (kp4.frozen (p := ⟨w1.heap.size, 1, none⟩) C3.out.1 hG).trans C3.out.2.2.2.2⟩)
  have D4 := hide (P3.out.cells.keep kp4 hne)
  have F4 := hide hfill
  have KP4 := hide kp4
  clear hrun hbut hfill kp4
  refine wpAnyH_ready (rs := [8]) (by kernel_rfl) (by simp) ?_
  refine AllReadyH.cons rfl (fun K hK => ?_) AllReadyH.nil
  refine wp_entry 29 (.tmp 24) (.tmp 25) rfl rfl rfl rfl rfl HRUN.out ?_
  refine hK.out _ _ ⟨(D4.out.get 5 _ rfl).1, C4.out.2.1, C4.out.2.2.1⟩ (fun hS => ?_)
  clear hK K
  (try simp only [Act.put, List.setIfInBounds_toArray, List.set_cons_zero, List.set_cons_succ])
  refine take_at 9 (some 30) (v := ?_) rfl rfl (by kernel_rfl) (by kernel_rfl) (by kernel_rfl) (fun _ _ _ h => h) ⟨by rfl, ?_⟩ hS ?_
  rotate_left
  · intro wq hSw; go_simp; try rfl
  simp only [Act.put, List.setIfInBounds_toArray, List.set_cons_zero, List.set_cons_succ]
  obtain ⟨w5, hrun5, M5, hb5⟩ := F4.out n w4 HN.out rfl
  have HRUN5 := hide hrun5
  have kp5 := hb5.keep
  have C5 := hide (show Box w5 w1.heap.size (.int .i64 L) (.int .i64 H) from ⟨Nat.lt_of_lt_of_le C4.out.1 kp5.size, (kp5.cell (p := ⟨w1.heap.size, 0, none⟩) C4.out.1 hG).trans C4.out.2.1, (kp5.cell (p := ⟨w1.heap.size, 1, none⟩) C4.out.1 hG).trans C4.out.2.2.1, (kp5.frozen (p := ⟨w1.heap.size, 0, none⟩) C4.out.1 hG).trans C4.out.2.2.2.1, (kp5.frozen (p := ⟨w1.heap.size, 1, none⟩) C4.out.1 hG).trans C4.out.2.2.2.2⟩)
  have D5 := hide (D4.out.keep kp5 hne)
  have MP5 := hide M5
  have KP5 := hide (KP4.out.trans kp5 (fun _ _ h => h))
  clear hrun5 M5 hb5 kp5 F4 KP4
  refine wpAnyH_ready (rs := [10]) (by kernel_rfl) (by simp) ?_
  refine AllReadyH.cons rfl (fun K hK => ?_) AllReadyH.nil
  refine wp_fill (.tmp 24) (.tmp 30) (.tmp 27) rfl rfl rfl rfl rfl HRUN5.out ?_
  refine hK.out _ _ ⟨(D5.out.get 5 _ rfl).1, C5.out.2.1, C5.out.2.2.1⟩ (fun hS => ?_)
  clear hK K
  (try simp only [Act.put])
  refine take_at 11 (some 31) (v := ?_) rfl rfl (by kernel_rfl) (by kernel_rfl) (by kernel_rfl) (fun _ _ _ h => h) ⟨by rfl, ?_⟩ hS ?_
  rotate_left
  · intro wq hSw; go_simp; try rfl
  simp only [Act.put, List.setIfInBounds_toArray, List.set_cons_zero, List.set_cons_succ]
  refine take_at 12 (some 32) (v := ?_) rfl rfl (by kernel_rfl) (by kernel_rfl) (by kernel_rfl) (fun _ _ _ h => h) ⟨by rfl, ?_⟩ hS ?_
  rotate_left
  · intro wq hSw; go_simp; try rfl
  simp only [Act.put, List.setIfInBounds_toArray, List.set_cons_zero, List.set_cons_succ]
  obtain ⟨z3, x3⟩ := D5.out.get 3 _ rfl
  obtain ⟨z4, x4⟩ := D5.out.get 4 _ rfl
  have D6 := hide ((D5.out.stored (j := 3) (by simp [escC]) (.int .i64 L)).stored (j := 4) (by simp [escC]) (.int .i64 H))
  have M6 := hide (MP5.out.keep (S := fun x => x = b) (((Keep.refl (fun x => x = b) w5).setCell (g := b) (j := 3) (fun _ => rfl) (.int .i64 L)).setCell (g := b) (j := 4) (fun _ => rfl) (.int .i64 H)) (fun q => hne q.symm))
  have KP6 : Hid (Keep (two b m) w3 ((w5.setCell ⟨b, 3, none⟩ (.int .i64 L)).setCell ⟨b, 4, none⟩ (.int .i64 H))) := hide (((KP5.out.mono (fun _ _ h => .inr h)).setCell (g := b) (j := 3) (fun _ => .inl rfl) _).setCell (g := b) (j := 4) (fun _ => .inl rfl) _)
  have C6 := hide (C5.out.other (c := b) (o := 3) (v := .int .i64 L) (by omega))
  have C6 := hide (C6.out.other (c := b) (o := 4) (v := .int .i64 H) (by omega))
  refine wpAnyH_ready (rs := [13]) (by kernel_rfl) (by simp) ?_
  refine AllReadyH.cons rfl (fun K hK => ?_) AllReadyH.nil
  go_simp
  go_wp2_with fail
  refine hK.out _ _ ⟨(D6.out.get 5 _ rfl).1, C6.out.2.1, C6.out.2.2.1⟩ (fun hS => ?_)
  clear hK K
  (try simp only [Act.put, List.setIfInBounds_toArray, List.set_cons_zero, List.set_cons_succ])
  refine wpAnyH_done (by kernel_rfl) ?_ _
  go_wp2_with fail
  go_ret
  refine ⟨rfl, ?_, ?_, ?_, ?_⟩
  · exact (Keep.of_below b3.out).trans KP6.out (fun _ _ h => h)
  · have q := D6.out
    have e1 : f.lo = e.lo ∧ f.hi = e.hi ∧ f.base = e.base := by rw [HE.out]; exact ⟨rfl, rfl, rfl⟩
    unfold escC at q ⊢
    rw [HLH.out.1, HLH.out.2, e1.1, e1.2.1, e1.2.2]
    simpa using q
  · rw [HE.out]
    exact M6.out
  · exact HOK.out

theorem add_any' (b m : Nat) (e : Esc) (tx d : Int) (w : World) (h : PE w b m e) (hx : I64 tx) (hd : I64 d) (hl : e.nets.length < 1000000000) :
    Calls Tryz.prog 28 #[ptr b, .int .i64 tx, .int .i64 d] w fun r w' => r = .returned (.int .i64 (mayE e tx d)) ∧ Keep (two b m) w w' ∧ PE w' b m (addN e tx d) := by
  by_cases hz : mayE e tx d = 0
  · exact add_yes b m e tx d w h hx hd hl hz
  · exact add_no b m e tx d w h hx hd hz
end Go.Proofs.YtaohdmaenplbpaaGreat
