import Derived.Test.YtapjbgkmcplpbaaGreatYoung
namespace Go.Proofs.YtapjbgkmcplpbaaGreat
open Go.RowKit Go.QK

/-- An error: none, or a Fault of this call, place 0, with the number e. -/
def ErrAt (w : World) (v : Value) (call : ByteArray) (e : Nat) : Prop := (e = 0 ∧ v = .nilIface) ∨ (e ≠ 0 ∧ ∃ b, v = .iface 85 (.pointer (some ⟨b, 0, none⟩)) ∧ Cells w b [.string call, .int .i64 0, .iface 38 (.int .i64 (e : Int))])

set_option maxHeartbeats 1000000 in
set_option maxRecDepth 100000 in
theorem fault_any (call : ByteArray) (e : Nat) (w : World) : Calls Tryz.prog 45 #[.string call, .int .i64 (e : Int)] w fun x w' => ∃ v, x = .returned v ∧ ErrAt w' v call e ∧ Below w.heap.size w w' := by
  by_cases h : e = 0
  · subst h
    go_enter Tryz.func45, Tryz.ntmps45
    go_wp2_with fail
    go_ret
    exact ⟨_, rfl, .inl ⟨rfl, rfl⟩, Below.refl _ _⟩
  · have h' : ((e : Int) == 0) = false := by simpa using h
    have H := hide h
    clear h
    go_enter Tryz.func45, Tryz.ntmps45
    go_wp2_with fail
    go_ret
    exact ⟨_, rfl, .inr ⟨H.out, w.heap.size, rfl, Cells.new w _ 87⟩, alloc_below _ _⟩

set_option maxHeartbeats 1000000 in
set_option maxRecDepth 100000 in
theorem format_nil (p l f : Int) (w : World) : Calls Tryz.prog 46 #[.pointer none, .agg (shC p l f)] w fun e w' => e = .returned (.int .i64 3) ∧ Below w.heap.size w w' := by
  unfold shC
  go_enter Tryz.func46, Tryz.ntmps46
  go_wp2_with fail
  go_ret
  exact ⟨rfl, alloc_below _ _⟩

/-- A shape's three cells at block b. -/
def Three (b : Nat) (p l f : Int) (wq : World) : Prop := wq.cell? ⟨b, 0, none⟩ = some (.int .i64 p) ∧ wq.cell? ⟨b, 1, none⟩ = some (.int .i64 l) ∧ wq.cell? ⟨b, 2, none⟩ = some (.int .i64 f)
theorem cell3.three {w : World} {b : Nat} {p l f : Int} (h : cell3 w b p l f) : Three b p l f w := ⟨h.c0, h.c1, h.c2⟩

set_option maxHeartbeats 4000000 in
set_option maxRecDepth 100000 in
theorem format_any {w : World} {S : Nat → Prop} {d : Nat} {g : Dev} (h : PDev w S d g) (p l f : Int) (hpl : g.pend.length ≤ 999990) (hcl : g.calls ≤ 999990) :
    Calls Tryz.prog 46 #[.pointer (some ⟨d, 0, none⟩), .agg (shC p l f)] w fun e w' => ∃ S', e = .returned (.int .i64 ((g.formatE p l f : Nat) : Int)) ∧ PDev w' S' d (g.formatD p l f) ∧ Step w S w' S' := by
  obtain ⟨w1, hw1⟩ : ∃ w1, w1 = w.alloc (.cells #[.int .i64 p, .int .i64 l, .int .i64 f] 23) := ⟨_, rfl⟩
  have C1 : cell3 w1 w.heap.size p l f := by rw [hw1]; exact cell3.new w p l f
  have b1 : Below w.heap.size w w1 := by rw [hw1]; exact alloc_below _ _
  have z1 : w1.heap.size = w.heap.size + 1 := by rw [hw1]; simp
  have D1 : Below w1.heap.size w1 w1.drew := (Below.refl _ _).drew
  have P1 := (h.below b1).below D1
  have KS := hide (sectors_any P1)
  have KF := hide (fits_any p l f ((g.n : Nat) : Int) w1.drew)
  have HW := hide hw1
  have Z := zero_run
  have HLT := hide h.lt
  have ln1 := @Dev.put_len g 0 zerosB
  have LN1 := hide ln1
  obtain ⟨ee, hee⟩ : ∃ ee, ee = g.formatE p l f := ⟨_, rfl⟩
  obtain ⟨gg, hgg⟩ : ∃ gg, gg = g.formatD p l f := ⟨_, rfl⟩
  rw [← hee, ← hgg]
  unfold Dev.formatE at hee
  unfold Dev.formatD at hgg
  have HE := hide hee
  have HG := hide hgg
  have HP := hide P1
  have HB := hide b1
  have HC := hide C1
  have F1 := C1.three
  clear hw1 P1 b1 C1 hee hgg ln1 h
  have FD := hide (Iff.refl (fitsN p l f ((g.n : Nat) : Int)))
  obtain ⟨gn, hgn⟩ : ∃ gn : Nat, gn = g.n := ⟨_, rfl⟩
  rw [← hgn] at KS KF HE HG FD
  clear hgn FD
  obtain ⟨bb, hbb⟩ : ∃ bb, bb = decide (fitsN p l f (gn : Int)) := ⟨_, rfl⟩
  rw [← hbb] at KF
  have HBB := hide hbb
  clear hbb
  unfold shC at KF
  unfold shC
  go_enter Tryz.func46, Tryz.ntmps46
  go_upto_region 3 with fail
  rw [← HW.out]
  clear HW
  refine wp_region_held_drew (S := Three w.heap.size p l f) (by kernel_rfl) F1 (fun hS => ?_)
  refine take_at 0 (some 8) (v := ?_) rfl rfl (by kernel_rfl) (by kernel_rfl) (by kernel_rfl) (fun _ _ _ h => h) ⟨by rfl, ?_⟩ hS ?_
  rotate_left
  · intro wq hSw; obtain ⟨x0, x1, x2⟩ := hSw; go_simp; try rfl
  simp only [Act.put, List.setIfInBounds_toArray, List.set_cons_zero, List.set_cons_succ]
  refine take_at 1 (some 9) (v := ?_) rfl rfl (by kernel_rfl) (by kernel_rfl) (by kernel_rfl) (fun _ _ _ h => h) ⟨by rfl, ?_⟩ hS ?_
  rotate_left
  · intro wq hSw; go_simp; try rfl
  simp only [Act.put, List.setIfInBounds_toArray, List.set_cons_zero, List.set_cons_succ]
  refine wpAnyH_ready (rs := [2]) (by kernel_rfl) (by simp) ?_
  refine AllReadyH.cons rfl (fun K hK => ?_) AllReadyH.nil
  go_simp
  go_wp2_with fail
  refine KS.out.mono ?_
  rintro e w' ⟨rfl, hw⟩
  obtain rfl : w1.drew = w' := hw.symm
  go_wp2_with fail
  refine hK.out _ _ hS (fun hS => ?_)
  clear hK K
  clear KS
  (try simp only [Act.put, List.setIfInBounds_toArray, List.set_cons_zero, List.set_cons_succ])
  refine wpAnyH_ready (rs := [3]) (by kernel_rfl) (by simp) ?_
  refine AllReadyH.cons rfl (fun K hK => ?_) AllReadyH.nil
  go_simp
  go_wp2_with fail
  refine KF.out.mono ?_
  rintro e w2 ⟨rfl, b2⟩
  have P2 := hide (HP.out.below b2)
  have C2 := hide ((HC.out.below D1).below b2)
  have B2 := hide (bnext HB.out (below_undrew b2) (Nat.le_refl _))
  have z2 : w1.heap.size ≤ w2.heap.size := b2.size
  clear b2 HP HC HB KF D1
  go_wp2_with fail
  refine hK.out _ _ C2.out.three (fun hS => ?_)
  clear hK K
  (try simp only [Act.put, List.setIfInBounds_toArray, List.set_cons_zero, List.set_cons_succ])
  refine take_at 4 (some 12) (v := ?_) rfl rfl (by kernel_rfl) (by kernel_rfl) (by kernel_rfl) (fun _ _ _ h => h) ⟨by rfl, ?_⟩ hS ?_
  rotate_left
  · intro wq hSw; go_simp; try rfl
  simp only [Act.put, List.setIfInBounds_toArray, List.set_cons_zero, List.set_cons_succ]
  refine wpAnyH_done (by kernel_rfl) ?_ _
  clear hS F1
  cases bb with
  | true =>
    have hf : fitsN p l f (gn : Int) := of_decide_eq_true HBB.out.symm
    rw [if_neg (not_not_intro hf)] at HE HG
    clear HBB
    have hm := hf.1
    unfold mayN at hm
    obtain ⟨P, rfl⟩ : ∃ P : Nat, p = (P : Int) := ⟨p.toNat, by omega⟩
    obtain ⟨L, rfl⟩ : ∃ L : Nat, l = (L : Int) := ⟨l.toNat, by omega⟩
    obtain ⟨F, rfl⟩ : ∃ F : Nat, f = (F : Int) := ⟨f.toNat, by omega⟩
    have fS : firstS (P : Int) (L : Int) (F : Int) = ⟨1, P, L, F, 0⟩ := by simp [firstS]
    rw [fS] at HE HG
    have fit : Slot.Fit ⟨1, P, L, F, 0⟩ := ⟨by simp, by simp; omega, by simp; omega, by simp; omega, by simp⟩
    have FIT := hide fit
    clear fS hm hf fit
    have KP := hide (put_any P2.out 0 zerosB (by kernel_rfl) (fun x hx => by rw [List.eq_of_mem_replicate hx]; decide) (by omega) (by omega))
    go_wp2_with fail
    refine KP.out.mono ?_
    rintro e w3 ⟨S3, rfl, P3, st3⟩
    have C3 := C2.out.keep st3.1 (fun q => by have := HLT.out _ q; omega)
    have c0 := C3.c0
    have c1 := C3.c1
    have c2 := C3.c2
    have ST3 := hide ((Step.of_below B2.out).trans st3)
    have HP3 := hide P3
    clear KP C2 B2 st3 C3 P2 P3
    by_cases he : g.putE 0 zerosB = 0
    · rw [if_neg (not_not_intro he)] at HE HG
      have KL := hide (lay_any HP3.out ⟨1, P, L, F, 0⟩ FIT.out (by have := LN1.out; omega) (by have := LN1.out; omega))
      unfold slotC at KL
      simp only [Int.natCast_one, Int.natCast_zero] at KL
      rw [he]
      clear HP3
      go_wp2_with fail
      refine KL.out.mono ?_
      rintro e w4 ⟨S4, rfl, P4, st4⟩
      go_wp2_with fail
      go_ret
      refine ⟨S4, ?_, ?_, ST3.out.trans st4⟩
      · rw [HE.out]; rfl
      · rw [HG.out]; exact P4
    · rw [if_pos he] at HE HG
      have q2 : (((g.putE 0 zerosB : Nat) : Int) != 0) = true := by simpa using he
      generalize g.putE 0 zerosB = pe at *
      clear he
      go_wp2_with fail
      go_ret
      refine ⟨S3, ?_, ?_, ST3.out⟩
      · rw [HE.out]; rfl
      · rw [HG.out]; exact HP3.out
  | false =>
    have hf : ¬ fitsN p l f (gn : Int) := of_decide_eq_false HBB.out.symm
    rw [if_pos hf] at HE HG
    clear hf HBB
    go_wp2_with fail
    go_ret
    refine ⟨S, ?_, ?_, Step.of_below B2.out⟩
    · rw [HE.out]; rfl
    · rw [HG.out]; exact P2.out
end Go.Proofs.YtapjbgkmcplpbaaGreat

namespace Go.Proofs.YtapjbgkmcplpbaaGreat
open Go.RowKit Go.QK

set_option maxHeartbeats 1000000 in
set_option maxRecDepth 100000 in
theorem point_nil (lsn : Int) (w : World) : Calls Tryz.prog 47 #[.pointer none, .int .i64 lsn] w fun e w' => e = .returned (.int .i64 3) ∧ w' = w := by
  go_enter Tryz.func47, Tryz.ntmps47
  go_wp2_with fail
  go_ret
  exact ⟨rfl, rfl⟩

theorem next_fit {g : Dev} {lsn : Int} (h : lsnN lsn) (_hm : g.master.stamp ≠ 4611686018427387904) : (g.master.next lsn).Fit := by
  unfold lsnN at h
  rcases g.master_or with q | ⟨i, _, q1, q2⟩
  · rw [q]
    exact ⟨by simp [Slot.next, Slot.none], by simp [Slot.next, Slot.none], by simp [Slot.next, Slot.none], by simp [Slot.next, Slot.none], by simp [Slot.next]; omega⟩
  · rw [← q1] at q2
    have f := q2.fit
    have := q2.2.1
    exact ⟨by simp [Slot.next]; omega, f.pages, f.log, f.frames, by simp [Slot.next]; omega⟩

set_option maxHeartbeats 4000000 in
set_option maxRecDepth 100000 in
theorem point_any {w : World} {S : Nat → Prop} {d : Nat} {g : Dev} (h : PDev w S d g) (lsn : Int) (hpl : g.pend.length ≤ 999990) (hcl : g.calls ≤ 999990) :
    Calls Tryz.prog 47 #[.pointer (some ⟨d, 0, none⟩), .int .i64 lsn] w fun e w' => ∃ S', e = .returned (.int .i64 ((g.pointE lsn : Nat) : Int)) ∧ PDev w' S' d (g.pointD lsn) ∧ Step w S w' S' := by
  obtain ⟨ee, hee⟩ : ∃ ee, ee = g.pointE lsn := ⟨_, rfl⟩
  obtain ⟨gg, hgg⟩ : ∃ gg, gg = g.pointD lsn := ⟨_, rfl⟩
  rw [← hee, ← hgg]
  unfold Dev.pointE at hee
  unfold Dev.pointD at hgg
  by_cases h1 : lsnN lsn
  · rw [if_neg (not_not_intro h1)] at hee hgg
    have KF := hide (from_yes 0 lsn 2147483647 w h1)
    have KY := young_any h (by omega)
    by_cases h2 : g.openE = 0
    · rw [if_neg (not_not_intro h2)] at hee hgg
      rw [h2] at KY
      have hd : g.down = false := by
        unfold Dev.openE at h2
        split at h2
        · omega
        · rename_i q; simpa using q
      have hop : g.openS = g.master := by unfold Dev.openS; rw [hd]; rfl
      rw [hop] at KY
      by_cases h3 : g.master.stamp = 4611686018427387904
      · rw [if_pos h3] at hee hgg
        have HE := hide hee
        have HG := hide hgg
        have HP := hide h
        have h3' : ((g.master.stamp : Int)) = 4611686018427387904 := by omega
        generalize g.master = m at *
        unfold slotC at KY
        rw [h3'] at KY
        have KY := hide KY
        clear hee hgg h1 h2 h hop h3 h3' hd
        go_enter Tryz.func47, Tryz.ntmps47
        go_wp2_with fail
        refine KF.out.mono ?_
        rintro e w' ⟨rfl, hw⟩
        obtain rfl : w = w' := hw.symm
        go_wp2_with fail
        refine KY.out.mono ?_
        rintro e w2 ⟨rfl, b2⟩
        have B2 := hide b2
        clear b2
        go_wp2_with fail
        go_ret
        exact ⟨S, by rw [HE.out]; rfl, by rw [HG.out]; exact HP.out.below (bnext B2.out (alloc_below _ _) (Nat.le_refl _)), Step.of_below (bnext B2.out (alloc_below _ _) (Nat.le_refl _))⟩
      · rw [if_neg h3] at hee hgg
        have fit := next_fit h1 h3
        have hst : g.master.stamp < 4611686018427387904 := by
          rcases g.master_or with q | ⟨i, _, q1, q2⟩
          · rw [q]; simp [Slot.none]
          · rw [← q1] at q2; have := q2.2.1; omega
        have h3' : (((g.master.stamp : Int)) == 4611686018427387904) = false := by rw [beq_eq_false_iff_ne]; omega
        have e1 : IntKind.u64.wrap ((g.master.stamp : Int) + 1) = (g.master.stamp : Int) + 1 := by rw [IntKind.wrap_u64]; omega
        obtain ⟨q, rfl⟩ : ∃ q : Nat, lsn = (q : Int) := ⟨lsn.toNat, by unfold lsnN at h1; omega⟩
        have KL := fun {w' : World} (hh : PDev w' S d g) => lay_any hh (g.master.next (q : Int)) fit (by omega) (by omega)
        obtain ⟨pE, hpE⟩ : ∃ x, x = g.putE (((g.master.next (q : Int)).stamp % 2 : Nat) : Int) (slotB (g.master.next (q : Int))) := ⟨_, rfl⟩
        obtain ⟨pD, hpD⟩ : ∃ x, x = g.putD (((g.master.next (q : Int)).stamp % 2 : Nat) : Int) (slotB (g.master.next (q : Int))) := ⟨_, rfl⟩
        rw [← hpE] at hee
        rw [← hpD] at hgg
        simp only [← hpE, ← hpD] at KL
        unfold slotC Slot.next at KL
        simp only [Int.natCast_add, Int.natCast_one, Int.toNat_natCast] at KL
        have HE := hide hee
        have HG := hide hgg
        have HP := hide h
        generalize g.master = m at *
        unfold slotC at KY
        have KY := hide KY
        clear hee hgg h1 h2 h hop h3 hpE hpD fit hst
        go_enter Tryz.func47, Tryz.ntmps47
        go_wp2_with fail
        refine KF.out.mono ?_
        rintro e w' ⟨rfl, hw⟩
        obtain rfl : w = w' := hw.symm
        go_wp2_with fail
        refine KY.out.mono ?_
        rintro e w2 ⟨rfl, b2⟩
        have bb := bnext b2 (alloc_below w2 (.cells #[.int .u64 (m.stamp : Int), .int .i64 (m.pages : Int), .int .i64 (m.log : Int), .int .i64 (m.frames : Int), .int .i64 (m.point : Int)] 82)) (Nat.le_refl _)
        have KL := hide (KL (HP.out.below bb))
        have BB := hide bb
        clear b2 bb HP
        go_wp2_with fail
        refine KL.out.mono ?_
        rintro e w3 ⟨S3, rfl, P3, st3⟩
        go_wp2_with fail
        go_ret
        exact ⟨S3, by rw [HE.out]; rfl, by rw [HG.out]; exact P3, (Step.of_below BB.out).trans st3⟩
    · rw [if_pos h2] at hee hgg
      have q2 : (((g.openE : Nat) : Int) != 0) = true := by simpa using h2
      have HE := hide hee
      have HG := hide hgg
      have HP := hide h
      generalize g.openE = oe at *
      generalize g.openS = os at *
      unfold slotC at KY
      have KY := hide KY
      clear hee hgg h1 h2 h
      go_enter Tryz.func47, Tryz.ntmps47
      go_wp2_with fail
      refine KF.out.mono ?_
      rintro e w' ⟨rfl, hw⟩
      obtain rfl : w = w' := hw.symm
      go_wp2_with fail
      refine KY.out.mono ?_
      rintro e w2 ⟨rfl, b2⟩
      have B2 := hide b2
      clear b2
      go_wp2_with fail
      go_ret
      exact ⟨S, by rw [HE.out]; rfl, by rw [HG.out]; exact HP.out.below (bnext B2.out (alloc_below _ _) (Nat.le_refl _)), Step.of_below (bnext B2.out (alloc_below _ _) (Nat.le_refl _))⟩
  · rw [if_pos h1] at hee hgg
    have KF := hide (from_no 0 lsn 2147483647 w h1)
    have HE := hide hee
    have HG := hide hgg
    have HP := hide h
    clear hee hgg h h1
    go_enter Tryz.func47, Tryz.ntmps47
    go_wp2_with fail
    refine KF.out.mono ?_
    rintro e w' ⟨rfl, hw⟩
    obtain rfl : w = w' := hw.symm
    go_wp2_with fail
    go_ret
    exact ⟨S, by rw [HE.out]; rfl, by rw [HG.out]; exact HP.out, Step.refl _ _⟩
end Go.Proofs.YtapjbgkmcplpbaaGreat
