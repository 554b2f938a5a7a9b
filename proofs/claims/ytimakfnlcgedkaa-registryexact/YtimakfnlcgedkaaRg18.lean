import Derived.Test.YtimakfnlcgedkaaRg17
namespace Go.Proofs.Ytimakfnlcgedkaa
open Go.RowKit Go.QK Go.Maps Go.QM Go.QR
set_option maxRecDepth 100000
theorem info92 : (Try.prog.info? 92).map (fun i => (i.zero, i.size, i.bytes)) = some (some (.agg #[.int .i64 0, .int .i64 0]), 2, 16) := by kernel_rfl
/-- A row's block, behind an append: the same one, or a new one. -/
def Same (n : Nat) (v v' : Value) : Prop := v'.ownBlock = v.ownBlock ∨ ∃ x, v'.ownBlock = some x ∧ n ≤ x
abbrev RTake (w : World) (B b : Nat) (vC vG : Value) (r : Reg) (c d : Int) (a s : SlotN) (e : Ending) (w' : World) : Prop :=
  e = .returned (.int .i64 (r.takeE c d a s)) ∧ ∃ vC' vG', RR w' B b vC' vG' (r.take c d a s) ∧ Same w.heap.size vC vC' ∧ Same w.heap.size vG vG' ∧ Keep (fun z => z = b ∨ vC.ownBlock = some z ∨ vG.ownBlock = some z) w w'
/-- One more in the groups' row. -/
theorem RR.gpush {w w7 w8 : World} {B b : Nat} {vC vG vn : Value} {r : Reg} {d : Int} (h : RR w B b vC vG r) (q1 : GRow w7 B 3 1 vn (r.G.length + 1) (r.G.map (Value.int .i64) ++ [.int .i64 d])) (k7 : Keep (fun z => vG.ownBlock = some z) w w7) (q3 : vn.ownBlock = vG.ownBlock ∨ vn.ownBlock = some (w.heap.size + 1)) (hw : w8 = w7.setCell ⟨b, 2, none⟩ vn) :
    RR w8 B b vC vn ⟨r.P, r.C, r.G ++ [d]⟩ ∧ Keep (fun z => z = b ∨ vG.ownBlock = some z) w w8 ∧ Same w.heap.size vG vn := by
  have k8 : Keep (fun z => z = b) w7 w8 := by rw [hw]; exact (Keep.refl (fun z => z = b) w7).setCell (g := b) (j := 2) (fun _ => rfl) vn
  have hlt := h.box.1
  have hnb : vn.ownBlock ≠ some b := by
    rcases q3 with e | e
    · rw [e]; exact h.og
    · rw [e]; simp; omega
  have BX := h.box.keep k7 h.og
  have lC := fun x (hx : vC.ownBlock = some x) => own_lt h.rc hx
  refine ⟨⟨?_, ?_, ?_, ?_, h.oc, hnb, h.low⟩, ?_, ?_⟩
  · rw [hw]
    have := BX.stored (j := 2) (by simp) vn
    simpa using this
  · exact GRow.keep (GRow.keep h.rc k7 (fun x hx q => h.cg x hx q)) k8 (fun x hx q => h.oc (by rw [hx, q]))
  · have := GRow.keep q1 k8 (fun x hx q => hnb (by rw [hx, q]))
    simpa using this
  · intro x hx q
    rcases q3 with e | e
    · rw [e] at q; exact h.cg x hx q
    · rw [e] at q; cases q; have := lC _ hx; omega
  · exact (k7.mono (T := fun z => z = b ∨ vG.ownBlock = some z) (fun _ _ q => .inr q)).trans k8 (fun _ _ q => .inl q)
  · rcases q3 with e | e
    · exact .inl e
    · exact .inr ⟨_, e, by omega⟩
/-- One more in the counters' row. -/
theorem RR.cpush {w w7 w8 : World} {B b : Nat} {vC vG vn : Value} {r : Reg} {p : Int × Int} (h : RR w B b vC vG r) (q1 : GRow w7 B 92 2 vn (r.C.length + 1) (rowsC c2 r.C ++ c2 p)) (k7 : Keep (fun z => vC.ownBlock = some z) w w7) (q3 : vn.ownBlock = vC.ownBlock ∨ vn.ownBlock = some (w.heap.size + 1)) (hw : w8 = w7.setCell ⟨b, 1, none⟩ vn) :
    RR w8 B b vn vG ⟨r.P, r.C ++ [p], r.G⟩ ∧ Keep (fun z => z = b ∨ vC.ownBlock = some z) w w8 ∧ Same w.heap.size vC vn := by
  have k8 : Keep (fun z => z = b) w7 w8 := by rw [hw]; exact (Keep.refl (fun z => z = b) w7).setCell (g := b) (j := 1) (fun _ => rfl) vn
  have hlt := h.box.1
  have hnb : vn.ownBlock ≠ some b := by
    rcases q3 with e | e
    · rw [e]; exact h.oc
    · rw [e]; simp; omega
  have BX := h.box.keep k7 h.oc
  have lG := fun x (hx : vG.ownBlock = some x) => own_lt h.rg hx
  refine ⟨⟨?_, ?_, ?_, ?_, hnb, h.og, h.low⟩, ?_, ?_⟩
  · rw [hw]
    have := BX.stored (j := 1) (by simp) vn
    simpa using this
  · have := GRow.keep q1 k8 (fun x hx q => hnb (by rw [hx, q]))
    simpa [rowsC] using this
  · exact GRow.keep (GRow.keep h.rg k7 (fun x hx q => h.cg x q hx)) k8 (fun x hx q => h.og (by rw [hx, q]))
  · intro x hx q
    rcases q3 with e | e
    · rw [e] at hx; exact h.cg x hx q
    · rw [e] at hx; cases hx; have := lG _ q; omega
  · exact (k7.mono (T := fun z => z = b ∨ vC.ownBlock = some z) (fun _ _ q => .inr q)).trans k8 (fun _ _ q => .inl q)
  · rcases q3 with e | e
    · exact .inl e
    · exact .inr ⟨_, e, by omega⟩
theorem take_oddR {r : Reg} {c d : Int} {a b : SlotN} (hz : r.planE c d = 0) (hne : ¬ (a = r.planW c d ∧ b = r.planS c d)) : r.takeE c d a b = 83 ∧ r.take c d a b = r := by
  have e1 : r.takeE c d a b = 83 := by unfold Reg.takeE; rw [if_pos hz, if_neg hne]
  exact ⟨e1, by unfold Reg.take; rw [if_neg (by rw [e1]; decide)]⟩
theorem lies_one (w : World) (x : Int) (t : TypeId) : Lies (w.alloc (.cells #[.int .i64 x] t)) (some ⟨w.heap.size, 0, none⟩) [.int .i64 x] := by
  have h := Cells.new w #[.int .i64 x] t
  refine .inr ⟨w.heap.size, 0, rfl, h.1, fun i hi => ?_⟩
  have q := (h.2 i (by simpa using hi)).1
  rw [Nat.zero_add]
  exact q
set_option maxHeartbeats 8000000 in
theorem rtake_any (B b : Nat) (vC vG : Value) (r : Reg) (c d : Int) (a s : SlotN) (w : World) (h : RR w B b vC vG r) (ok : r.Ok) : Calls Try.prog 29 #[ptr b, .int .i64 c, .int .i64 d, slotV a, slotV s] w (RTake w B b vC vG r c d a s) := by
  unfold RTake
  obtain ⟨w1, hw1⟩ : ∃ w1, w1 = (w.alloc (.cells #[.int .i64 a.1, .int .i64 a.2] 30)).alloc (.cells #[.int .i64 s.1, .int .i64 s.2] 30) := ⟨_, rfl⟩
  obtain ⟨A1, B1, b1, s1⟩ := two_cells hw1
  have P1 := h.below b1
  have KP := rplan_any B b vC vG r c d w1 P1 ok
  rw [hw1] at KP
  unfold PlanPost at KP
  have hP := hide P1
  have hA := hide A1
  have hB := hide B1
  have hb1 := hide b1
  have hs1 := hide s1
  have HW1 := hide hw1
  have OK := hide ok
  clear P1 A1 B1 b1 s1 hw1 h ok
  by_cases hz : r.planE c d = 0
  · obtain ⟨pw, hpw⟩ : ∃ ps, ps = r.planW c d := ⟨_, rfl⟩
    obtain ⟨ps, hps⟩ : ∃ ps, ps = r.planS c d := ⟨_, rfl⟩
    have EZ := hide hz
    rw [hz, ← hpw, ← hps] at KP
    have HPW := hide hpw
    have HPS := hide hps
    clear hz hpw hps
    by_cases heq : a = pw ∧ s = ps
    · have EQT := hide (takeE_yes EZ.out (heq.1.trans HPW.out) (heq.2.trans HPS.out))
      obtain ⟨ha, hs⟩ := heq
      subst ha hs
      have hcl := OK.out.lens.1
      have hgl := OK.out.lens.2
      have KG := fun w' (h : RR w' B b vC vG r) => rgroup_any B b vC vG r d w' h (by omega)
      go_enter Try.func29, Try.ntmps29
      go_upto_region 4 with (go_at_call 36; refine KP.mono ?_; rintro e w2 ⟨rfl, hh⟩; rw [← HW1.out] at hh; have P2 := hide (hP.out.below hh); have A2 := hide (hA.out.below hh); have B2 := hide (hB.out.below hh); have C2 := hide (hb1.out.trans (hh.mono hb1.out.size)); have S2 := hide (show w.heap.size + 2 ≤ w2.heap.size by have := hh.size; have := hs1.out; omega); clear hh hP hA hB hb1 hs1 HW1)
      refine named (P := Code.wp _ _ _ _) ?_
      intro w5 hw5
      obtain ⟨D5, E5, bb, -⟩ := two_cells hw5
      have P5 := hide (P2.out.below bb)
      have A5 := hide (A2.out.below bb)
      have B5 := hide (B2.out.below bb)
      have C5 := hide (C2.out.trans (bb.mono C2.out.size))
      clear bb hw5 P2 A2 B2 C2 S2
      obtain ⟨A, hA⟩ : ∃ A, A = w.heap.size := ⟨_, rfl⟩
      rw [← hA] at A5 B5 ⊢
      clear hA
      generalize w2.heap.size = F at *
      obtain ⟨a0, a0f⟩ := A5.out.get 0 _ rfl
      obtain ⟨a1, a1f⟩ := A5.out.get 1 _ rfl
      obtain ⟨c0, c0f⟩ := B5.out.get 0 _ rfl
      obtain ⟨c1, c1f⟩ := B5.out.get 1 _ rfl
      obtain ⟨d0, d0f⟩ := D5.get 0 _ rfl
      obtain ⟨d1, d1f⟩ := D5.get 1 _ rfl
      obtain ⟨e0, e0f⟩ := E5.get 0 _ rfl
      obtain ⟨e1, e1f⟩ := E5.get 1 _ rfl
      clear D5 E5
      go_upto_region 6 with fail
      clear a0 a0f a1 a1f c0 c0f c1 c1f d0 d0f d1 d1f e0 e0f e1 e1f A5 B5
      cases hq : place r.G d with
      | some k =>
        rw [hq] at KG
        simp only [plI] at KG
        have hk0 : ¬ ((k : Int) < 0) := by omega
        have HMO := hide (show r.more c d = ⟨r.P, r.C ++ [(c, d)], r.G⟩ by unfold Reg.more; rw [hq]; rfl)
        clear hq
        have R6 := P5
        clear P5
        obtain ⟨kc, kcf⟩ := R6.out.box.get 1 _ rfl
        go_upto_region 9 with (first | (go_at_call 37; refine (KG _ R6.out).mono ?_; rintro e wz ⟨rfl, rfl⟩) | (at_builtin; refine wpList_appR Try.underlying85 info92 rfl (by decide) (by decide) rfl (.tmp _) (.tmp _) rfl B vC _ (rowsC c2 r.C) rfl (GRow.below R6.out.rc (alloc_below _ _)) (some ⟨w5.heap.size, 0, none⟩) 1 1 (c2 (c, d)) rfl rfl (lies_new _ _ _) (by simp [Value.oneCell']) (by nofun) (by omega) (by have := R6.out.low; have := R6.out.box.1; simp; omega) ?_; intro vCn w7 q1 q2 q3; obtain ⟨av, cv, hv, -⟩ := GRow.lies q1; subst hv; have kc7 : Keep (fun z => vC.ownBlock = some z) w5 w7 := (Keep.of_below (S := fun z => vC.ownBlock = some z) (alloc_below w5 (.cells #[.int .i64 c, .int .i64 d] 92))).trans (grown_keep q2) (fun _ _ h => h); obtain ⟨kd, kdf⟩ := (R6.out.box.keep kc7 R6.out.oc).get 1 _ rfl; clear kc kcf))
        refine named (P := Code.wp _ _ _ _) ?_
        intro w8 hw8
        obtain ⟨f1, f2, f3⟩ := R6.out.cpush q1 kc7 (by simpa using q3) hw8
        clear hw8 q1 q2 q3 kd kdf
        go_wp2_with fail
        go_ret
        refine ⟨by rw [EQT.out.1]; rfl, _, vG, by rw [EQT.out.2, HMO.out]; exact f1, ?_, .inl rfl, ?_⟩
        · rcases f3 with e | ⟨x, e1, e2⟩
          · exact .inl e
          · exact .inr ⟨x, e1, Nat.le_trans C5.out.size e2⟩
        · exact (Keep.of_below (S := fun z => z = b ∨ vC.ownBlock = some z ∨ vG.ownBlock = some z) C5.out).trans f2 (fun _ _ q => by rcases q with q | q; exact .inl q; exact .inr (.inl q))
      | none =>
        rw [hq] at KG
        simp only [plI] at KG
        have HMO := hide (show r.more c d = ⟨r.P, r.C ++ [(c, d)], r.G ++ [d]⟩ by unfold Reg.more; rw [hq]; rfl)
        clear hq
        obtain ⟨kc, kcf⟩ := P5.out.box.get 2 _ rfl
        go_upto_region 8 with (first | (go_at_call 37; refine (KG _ P5.out).mono ?_; rintro e wz ⟨rfl, rfl⟩) | (at_builtin; refine wpList_appR Try.underlying34 info3 rfl (by decide) (by decide) rfl (.tmp _) (.tmp _) rfl B vG _ (r.G.map (Value.int .i64)) rfl (GRow.below P5.out.rg (alloc_below _ _)) (some ⟨w5.heap.size, 0, none⟩) 1 1 [.int .i64 d] rfl rfl (lies_one _ _ _) (by simp [Value.oneCell']) (by nofun) (by omega) (by have := P5.out.low; have := P5.out.box.1; simp; omega) ?_; intro vGn w7 q1 q2 q3; obtain ⟨av, cv, hv, -⟩ := GRow.lies q1; subst hv; have kc7 : Keep (fun z => vG.ownBlock = some z) w5 w7 := (Keep.of_below (S := fun z => vG.ownBlock = some z) (alloc_below w5 (.cells #[.int .i64 d] 3))).trans (grown_keep q2) (fun _ _ h => h); obtain ⟨kd, kdf⟩ := (P5.out.box.keep kc7 P5.out.og).get 2 _ rfl; clear kc kcf))
        refine named (P := Code.wp _ _ _ _) ?_
        intro w6 hw6
        obtain ⟨f1, f2, f3⟩ := P5.out.gpush q1 kc7 (by simpa using q3) hw6
        have R6 := hide f1
        have K6 := hide f2
        have S6 := hide f3
        clear hw6 q1 q2 q3 kd kdf f1 f2 f3
        obtain ⟨kc, kcf⟩ := R6.out.box.get 1 _ rfl
        go_upto_region 9 with (at_builtin; refine wpList_appR Try.underlying85 info92 rfl (by decide) (by decide) rfl (.tmp _) (.tmp _) rfl B vC r.C.length (rowsC c2 r.C) rfl (GRow.below (show GRow w6 B 92 2 vC r.C.length (rowsC c2 r.C) from R6.out.rc) (alloc_below _ _)) (some ⟨w6.heap.size, 0, none⟩) 1 1 (c2 (c, d)) rfl rfl (lies_new _ _ _) (by simp [Value.oneCell']) (by nofun) (by omega) (by have := R6.out.low; have := R6.out.box.1; simp; omega) ?_; intro vCn w7' q1 q2 q3; obtain ⟨av2, cv2, hv, -⟩ := GRow.lies q1; subst hv; have kc8 : Keep (fun z => vC.ownBlock = some z) w6 w7' := (Keep.of_below (S := fun z => vC.ownBlock = some z) (alloc_below w6 (.cells #[.int .i64 c, .int .i64 d] 92))).trans (grown_keep q2) (fun _ _ h => h); obtain ⟨kd, kdf⟩ := (R6.out.box.keep kc8 R6.out.oc).get 1 _ rfl; clear kc kcf)
        refine named (P := Code.wp _ _ _ _) ?_
        intro w8 hw8
        obtain ⟨f1, f2, f3⟩ := R6.out.cpush q1 kc8 (by simpa using q3) hw8
        clear hw8 q1 q2 q3 kd kdf
        go_wp2_with fail
        go_ret
        refine ⟨by rw [EQT.out.1]; rfl, _, _, by rw [EQT.out.2, HMO.out]; exact f1, ?_, ?_, ?_⟩
        · rcases f3 with e | ⟨x, e1, e2⟩
          · exact .inl e
          · exact .inr ⟨x, e1, Nat.le_trans (Nat.le_trans C5.out.size K6.out.size) e2⟩
        · rcases S6.out with e | ⟨x, e1, e2⟩
          · exact .inl e
          · exact .inr ⟨x, e1, Nat.le_trans C5.out.size e2⟩
        · exact ((Keep.of_below (S := fun z => z = b ∨ vC.ownBlock = some z ∨ vG.ownBlock = some z) C5.out).trans K6.out (fun _ _ q => by rcases q with q | q; exact .inl q; exact .inr (.inr q))).trans f2 (fun _ _ q => by rcases q with q | q; exact .inl q; exact .inr (.inl q))
    · have EQT := hide (take_oddR EZ.out (by rw [← HPW.out, ← HPS.out]; exact heq))
      go_enter Try.func29, Try.ntmps29
      go_upto_region 4 with (go_at_call 36; refine KP.mono ?_; rintro e w2 ⟨rfl, hh⟩; rw [← HW1.out] at hh; have P2 := hide (hP.out.below hh); have A2 := hide (hA.out.below hh); have B2 := hide (hB.out.below hh); have C2 := hide (hb1.out.trans (hh.mono hb1.out.size)); have S2 := hide (show w.heap.size + 2 ≤ w2.heap.size by have := hh.size; have := hs1.out; omega); clear hh hP hA hB hb1 hs1 HW1)
      refine named (P := Code.wp _ _ _ _) ?_
      intro w5 hw5
      obtain ⟨D5, E5, bb, -⟩ := two_cells hw5
      have P5 := hide (P2.out.below bb)
      have A5 := hide (A2.out.below bb)
      have B5 := hide (B2.out.below bb)
      have C5 := hide (C2.out.trans (bb.mono C2.out.size))
      clear bb hw5 P2 A2 B2 C2 S2
      obtain ⟨A, hA⟩ : ∃ A, A = w.heap.size := ⟨_, rfl⟩
      rw [← hA] at A5 B5 ⊢
      clear hA
      generalize w2.heap.size = F at *
      obtain ⟨a0, a0f⟩ := A5.out.get 0 _ rfl
      obtain ⟨a1, a1f⟩ := A5.out.get 1 _ rfl
      obtain ⟨c0, c0f⟩ := B5.out.get 0 _ rfl
      obtain ⟨c1, c1f⟩ := B5.out.get 1 _ rfl
      obtain ⟨d0, d0f⟩ := D5.get 0 _ rfl
      obtain ⟨d1, d1f⟩ := D5.get 1 _ rfl
      obtain ⟨e0, e0f⟩ := E5.get 0 _ rfl
      obtain ⟨e1, e1f⟩ := E5.get 1 _ rfl
      clear D5 E5
      go_wp2
      all_goals first
        | (exfalso; exact heq ⟨Prod.ext (Eq.symm (by assumption)) (Eq.symm (by assumption)), Prod.ext (Eq.symm (by assumption)) (Eq.symm (by assumption))⟩)
        | (exfalso; exact heq ⟨Prod.ext (by assumption) (by assumption), Prod.ext (by assumption) (by assumption)⟩)
        | (go_ret; exact ⟨by rw [EQT.out.1]; rfl, vC, vG, by rw [EQT.out.2]; exact P5.out, .inl rfl, .inl rfl, Keep.of_below C5.out⟩)
  · have EQT := hide (takeE_no (r := r) (c := c) (d := d) (a := a) (b := s) hz)
    obtain ⟨pw, hpw⟩ : ∃ ps, ps = r.planW c d := ⟨_, rfl⟩
    obtain ⟨ps, hps⟩ : ∃ ps, ps = r.planS c d := ⟨_, rfl⟩
    obtain ⟨pe, hpe⟩ : ∃ ps, ps = r.planE c d := ⟨_, rfl⟩
    rw [← hpw, ← hps, ← hpe] at KP
    rw [← hpe] at hz
    have HPE := hide hpe
    have hne : (pe != 0) = true := by simpa using hz
    clear hpw hps hpe hz
    go_enter Try.func29, Try.ntmps29
    go_wp2_with (go_at_call 36; refine KP.mono ?_; rintro e w2 ⟨rfl, hh⟩; rw [← HW1.out] at hh; have P2 := hide (hP.out.below hh); have C2 := hide (hb1.out.trans (hh.mono hb1.out.size)); clear hh hP hA hB hb1 hs1 HW1)
    go_ret
    refine ⟨by rw [EQT.out.1, ← HPE.out]; rfl, vC, vG, by rw [EQT.out.2]; exact P2.out.below ((alloc_below _ _).alloc (by simp) _), .inl rfl, .inl rfl, ?_⟩
    exact (Keep.of_below C2.out).then_below ((alloc_below _ _).alloc (by simp) _)
end Go.Proofs.Ytimakfnlcgedkaa
