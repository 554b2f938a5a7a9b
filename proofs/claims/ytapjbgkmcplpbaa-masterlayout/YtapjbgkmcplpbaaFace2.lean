import Derived.Test.YtapjbgkmcplpbaaFace
namespace Go.Proofs.Ytapjbgkmcplpbaa
open Go.RowKit Go.QK

set_option maxHeartbeats 1000000 in
set_option maxRecDepth 100000 in
theorem point_nil (lsn : Int) (w : World) : Calls Try.prog 36 #[.pointer none, .int .i64 lsn] w fun e w' => e = .returned (.int .i64 3) ∧ w' = w := by
  go_enter Try.func36, Try.ntmps36
  go_wp2_with fail
  go_ret
  exact ⟨rfl, rfl⟩

theorem next_fit {g : Dev} {lsn : Int} (h : lsnN lsn) (_hm : g.master.stamp ≠ 4611686018427387904) : (g.master.next lsn).Fit := by
  unfold lsnN at h
  rcases g.master_or with q | ⟨i, _, q1, q2⟩
  · rw [q]
    exact ⟨by simp [Slot.next, Slot.none], by simp [Slot.next, Slot.none], by simp [Slot.next, Slot.none], by simp [Slot.next, Slot.none], by simp [Slot.next]; omega⟩
  · rw [← q1] at q2
    have f := q2.fit
    have := q2.2.1
    exact ⟨by simp [Slot.next]; omega, f.pages, f.log, f.frames, by simp [Slot.next]; omega⟩

set_option maxHeartbeats 4000000 in
set_option maxRecDepth 100000 in
theorem point_any {w : World} {S : Nat → Prop} {d : Nat} {g : Dev} (h : PDev w S d g) (lsn : Int) (hpl : g.pend.length ≤ 999990) (hcl : g.calls ≤ 999990) :
    Calls Try.prog 36 #[.pointer (some ⟨d, 0, none⟩), .int .i64 lsn] w fun e w' => ∃ S', e = .returned (.int .i64 ((g.pointE lsn : Nat) : Int)) ∧ PDev w' S' d (g.pointD lsn) ∧ Step w S w' S' := by
  obtain ⟨ee, hee⟩ : ∃ ee, ee = g.pointE lsn := ⟨_, rfl⟩
  obtain ⟨gg, hgg⟩ : ∃ gg, gg = g.pointD lsn := ⟨_, rfl⟩
  rw [← hee, ← hgg]
  unfold Dev.pointE at hee
  unfold Dev.pointD at hgg
  by_cases h1 : lsnN lsn
  · rw [if_neg (not_not_intro h1)] at hee hgg
    have KF := hide (from_yes 0 lsn 2147483647 w h1)
    have KY := young_any h (by omega)
    by_cases h2 : g.openE = 0
    · rw [if_neg (not_not_intro h2)] at hee hgg
      rw [h2] at KY
      have hd : g.down = false := by
        unfold Dev.openE at h2
        split at h2
        · omega
        · rename_i q; simpa using q
      have hop : g.openS = g.master := by unfold Dev.openS; rw [hd]; rfl
      rw [hop] at KY
      by_cases h3 : g.master.stamp = 4611686018427387904
      · rw [if_pos h3] at hee hgg
        have HE := hide hee
        have HG := hide hgg
        have HP := hide h
        have h3' : ((g.master.stamp : Int)) = 4611686018427387904 := by omega
        generalize g.master = m at *
        unfold slotC at KY
        rw [h3'] at KY
        have KY := hide KY
        clear hee hgg h1 h2 h hop h3 h3' hd
        go_enter Try.func36, Try.ntmps36
        go_wp2_with fail
        refine KF.out.mono ?_
        rintro e w' ⟨rfl, hw⟩
        obtain rfl : w = w' := hw.symm
        go_wp2_with fail
        refine KY.out.mono ?_
        rintro e w2 ⟨rfl, b2⟩
        have B2 := hide b2
        clear b2
        go_wp2_with fail
        go_ret
        exact ⟨S, by rw [HE.out]; rfl, by rw [HG.out]; exact HP.out.below (bnext B2.out (alloc_below _ _) (Nat.le_refl _)), Step.of_below (bnext B2.out (alloc_below _ _) (Nat.le_refl _))⟩
      · rw [if_neg h3] at hee hgg
        have fit := next_fit h1 h3
        have hst : g.master.stamp < 4611686018427387904 := by
          rcases g.master_or with q | ⟨i, _, q1, q2⟩
          · rw [q]; simp [Slot.none]
          · rw [← q1] at q2; have := q2.2.1; omega
        have h3' : (((g.master.stamp : Int)) == 4611686018427387904) = false := by rw [beq_eq_false_iff_ne]; omega
        have e1 : IntKind.u64.wrap ((g.master.stamp : Int) + 1) = (g.master.stamp : Int) + 1 := by rw [IntKind.wrap_u64]; omega
        obtain ⟨q, rfl⟩ : ∃ q : Nat, lsn = (q : Int) := ⟨lsn.toNat, by unfold lsnN at h1; omega⟩
        have KL := fun {w' : World} (hh : PDev w' S d g) => lay_any hh (g.master.next (q : Int)) fit (by omega) (by omega)
        obtain ⟨pE, hpE⟩ : ∃ x, x = g.putE (((g.master.next (q : Int)).stamp % 2 : Nat) : Int) (slotB (g.master.next (q : Int))) := ⟨_, rfl⟩
        obtain ⟨pD, hpD⟩ : ∃ x, x = g.putD (((g.master.next (q : Int)).stamp % 2 : Nat) : Int) (slotB (g.master.next (q : Int))) := ⟨_, rfl⟩
        rw [← hpE] at hee
        rw [← hpD] at hgg
        simp only [← hpE, ← hpD] at KL
        unfold slotC Slot.next at KL
        simp only [Int.natCast_add, Int.natCast_one, Int.toNat_natCast] at KL
        have HE := hide hee
        have HG := hide hgg
        have HP := hide h
        generalize g.master = m at *
        unfold slotC at KY
        have KY := hide KY
        clear hee hgg h1 h2 h hop h3 hpE hpD fit hst
        go_enter Try.func36, Try.ntmps36
        go_wp2_with fail
        refine KF.out.mono ?_
        rintro e w' ⟨rfl, hw⟩
        obtain rfl : w = w' := hw.symm
        go_wp2_with fail
        refine KY.out.mono ?_
        rintro e w2 ⟨rfl, b2⟩
        have bb := bnext b2 (alloc_below w2 (.cells #[.int .u64 (m.stamp : Int), .int .i64 (m.pages : Int), .int .i64 (m.log : Int), .int .i64 (m.frames : Int), .int .i64 (m.point : Int)] 63)) (Nat.le_refl _)
        have KL := hide (KL (HP.out.below bb))
        have BB := hide bb
        clear b2 bb HP
        go_wp2_with fail
        refine KL.out.mono ?_
        rintro e w3 ⟨S3, rfl, P3, st3⟩
        go_wp2_with fail
        go_ret
        exact ⟨S3, by rw [HE.out]; rfl, by rw [HG.out]; exact P3, (Step.of_below BB.out).trans st3⟩
    · rw [if_pos h2] at hee hgg
      have q2 : (((g.openE : Nat) : Int) != 0) = true := by simpa using h2
      have HE := hide hee
      have HG := hide hgg
      have HP := hide h
      generalize g.openE = oe at *
      generalize g.openS = os at *
      unfold slotC at KY
      have KY := hide KY
      clear hee hgg h1 h2 h
      go_enter Try.func36, Try.ntmps36
      go_wp2_with fail
      refine KF.out.mono ?_
      rintro e w' ⟨rfl, hw⟩
      obtain rfl : w = w' := hw.symm
      go_wp2_with fail
      refine KY.out.mono ?_
      rintro e w2 ⟨rfl, b2⟩
      have B2 := hide b2
      clear b2
      go_wp2_with fail
      go_ret
      exact ⟨S, by rw [HE.out]; rfl, by rw [HG.out]; exact HP.out.below (bnext B2.out (alloc_below _ _) (Nat.le_refl _)), Step.of_below (bnext B2.out (alloc_below _ _) (Nat.le_refl _))⟩
  · rw [if_pos h1] at hee hgg
    have KF := hide (from_no 0 lsn 2147483647 w h1)
    have HE := hide hee
    have HG := hide hgg
    have HP := hide h
    clear hee hgg h h1
    go_enter Try.func36, Try.ntmps36
    go_wp2_with fail
    refine KF.out.mono ?_
    rintro e w' ⟨rfl, hw⟩
    obtain rfl : w = w' := hw.symm
    go_wp2_with fail
    go_ret
    exact ⟨S, by rw [HE.out]; rfl, by rw [HG.out]; exact HP.out, Step.refl _ _⟩
end Go.Proofs.Ytapjbgkmcplpbaa
