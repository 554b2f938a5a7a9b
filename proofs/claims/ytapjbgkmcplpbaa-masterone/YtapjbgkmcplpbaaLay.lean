import Derived.Test.YtapjbgkmcplpbaaPut
namespace Go.Proofs.Ytapjbgkmcplpbaa
open Go.RowKit Go.QK

/-- A slot's five cells at block b. -/
def Five (b : Nat) (s : Slot) (wq : World) : Prop := wq.cell? ⟨b, 0, none⟩ = some (.int .u64 (s.stamp : Int)) ∧ wq.cell? ⟨b, 1, none⟩ = some (.int .i64 (s.pages : Int)) ∧ wq.cell? ⟨b, 2, none⟩ = some (.int .i64 (s.log : Int)) ∧ wq.cell? ⟨b, 3, none⟩ = some (.int .i64 (s.frames : Int)) ∧ wq.cell? ⟨b, 4, none⟩ = some (.int .i64 (s.point : Int))
theorem SlotAt.five {w : World} {b : Nat} {s : Slot} (h : SlotAt w b s) : Five b s w := ⟨h.at0, h.at1, h.at2, h.at3, h.at4⟩
theorem SlotAt.drew {w : World} {b : Nat} {s : Slot} (h : SlotAt w b s) : SlotAt w.drew b s := h

set_option maxHeartbeats 1000000 in
set_option maxRecDepth 100000 in
theorem lay_any {w : World} {S : Nat → Prop} {d : Nat} {g : Dev} (h : PDev w S d g) (s : Slot) (hf : s.Fit) (hpl : g.pend.length ≤ 999999) (hcl : g.calls ≤ 999999) :
    Calls Try.prog 49 #[.pointer (some ⟨d, 0, none⟩), .agg (slotC s)] w fun e w' => ∃ S', e = .returned (.int .i64 ((g.putE ((s.stamp % 2 : Nat) : Int) (slotB s) : Nat) : Int)) ∧ PDev w' S' d (g.putD ((s.stamp % 2 : Nat) : Int) (slotB s)) ∧ Step w S w' S' := by
  obtain ⟨w1, hw1⟩ : ∃ w1, w1 = w.alloc (.cells (slotC s) 63) := ⟨_, rfl⟩
  have S1 : SlotAt w1 w.heap.size s := by rw [hw1]; exact SlotAt.new w s
  have b1 : Below w.heap.size w w1 := by rw [hw1]; exact alloc_below _ _
  have z1 : w1.heap.size = w.heap.size + 1 := by rw [hw1]; simp
  have P1 := hide (h.below b1.drew)
  have K1 := hide (home_any s w1.drew hf.stamp)
  have K2 := fun w' => hide (sector_any s w' hf)
  have HLT := hide h.lt
  have HW := hide hw1
  have B1 := hide b1
  have HS1 := hide S1
  have F1 := S1.five
  obtain ⟨m, hm⟩ : ∃ m, m = s.stamp % 2 := ⟨_, rfl⟩
  rw [← hm] at K1 ⊢
  clear hw1 b1 S1 h hf hm
  unfold slotC at HW K1 K2 ⊢
  go_enter Try.func49, Try.ntmps49
  go_upto_region 1 with fail
  rw [← HW.out]
  refine wp_region_held_drew (S := Five w.heap.size s) (by kernel_rfl) F1 (fun hS => ?_)
  refine take_at 0 (some 5) (v := ?_) rfl rfl (by kernel_rfl) (by kernel_rfl) (by kernel_rfl) (fun _ _ _ h => h) ⟨by rfl, ?_⟩ hS ?_
  rotate_left
  · intro wq hSw; go_simp; try rfl
  simp only [Act.put, List.setIfInBounds_toArray, List.set_cons_zero, List.set_cons_succ]
  refine take_at 1 (some 6) (v := ?_) rfl rfl (by kernel_rfl) (by kernel_rfl) (by kernel_rfl) (fun _ _ _ h => h) ⟨by rfl, ?_⟩ hS ?_
  rotate_left
  · intro wq hSw; obtain ⟨x0, x1, x2, x3, x4⟩ := hSw; go_simp; try rfl
  simp only [Act.put, List.setIfInBounds_toArray, List.set_cons_zero, List.set_cons_succ]
  refine take_at 3 (some 8) (v := ?_) rfl rfl (by kernel_rfl) (by kernel_rfl) (by kernel_rfl) (fun _ _ _ h => h) ⟨by rfl, ?_⟩ hS ?_
  rotate_left
  · intro wq hSw; obtain ⟨x0, x1, x2, x3, x4⟩ := hSw; go_simp; try rfl
  simp only [Act.put, List.setIfInBounds_toArray, List.set_cons_zero, List.set_cons_succ]
  refine wpAnyH_ready (rs := [2]) (by kernel_rfl) (by simp) ?_
  refine AllReadyH.cons rfl (fun K hK => ?_) AllReadyH.nil
  go_simp
  go_wp2_with fail
  refine K1.out.mono ?_
  rintro e w2 ⟨rfl, b2⟩
  have S2 := hide (HS1.out.drew.below b2)
  have B2 := hide (bnext B1.out (below_undrew b2) (Nat.le_refl _))
  have P2 := hide (P1.out.below b2)
  have z2 := b2.size
  simp only [World.drew] at z2
  clear b2 P1 HS1 B1 K1
  go_wp2_with fail
  refine hK.out _ _ S2.out.five (fun hS => ?_)
  clear hK K
  (try simp only [Act.put, List.setIfInBounds_toArray, List.set_cons_zero, List.set_cons_succ])
  refine wpAnyH_ready (rs := [4]) (by kernel_rfl) (by simp) ?_
  refine AllReadyH.cons rfl (fun K hK => ?_) AllReadyH.nil
  go_simp
  go_wp2_with fail
  refine (K2 w2).out.mono ?_
  rintro e w3 ⟨rfl, b3⟩
  have S3 := hide (S2.out.below b3)
  have B3 := hide (bnext B2.out b3 (Nat.le_refl _))
  have P3 := hide (P2.out.below b3)
  have K3 := hide (put_any P3.out (m : Int) (slotB s) (slotB_length s) (slotB_allB s) hpl hcl)
  clear b3 P2 S2 B2 K2
  go_wp2_with fail
  refine hK.out _ _ S3.out.five (fun hS => ?_)
  clear hK K
  (try simp only [Act.put, List.setIfInBounds_toArray, List.set_cons_zero, List.set_cons_succ])
  refine wpAnyH_ready (rs := [5]) (by kernel_rfl) (by simp) ?_
  refine AllReadyH.cons rfl (fun K hK => ?_) AllReadyH.nil
  go_simp
  go_wp2_with fail
  refine K3.out.mono ?_
  rintro e w4 ⟨S', rfl, P4, st4⟩
  have S4 := hide (S3.out.keep st4.1 (fun q => by have := HLT.out _ q; omega))
  have R4 := hide (show ∃ S', PDev w4 S' d (g.putD (m : Int) (slotB s)) ∧ Step w S w4 S' from ⟨S', P4, (Step.of_below B3.out).trans st4⟩)
  clear P4 st4 P3 S3 B3 K3
  go_wp2_with fail
  refine hK.out _ _ S4.out.five (fun hS => ?_)
  clear hK K
  (try simp only [Act.put, List.setIfInBounds_toArray, List.set_cons_zero, List.set_cons_succ])
  refine take_at 6 (some 4) (v := ?_) rfl rfl (by kernel_rfl) (by kernel_rfl) (by kernel_rfl) (fun _ _ _ h => h) ⟨by rfl, ?_⟩ hS ?_
  rotate_left
  · intro wq hSw; go_simp; try rfl
  simp only [Act.put, List.setIfInBounds_toArray, List.set_cons_zero, List.set_cons_succ]
  refine wpAnyH_done (by kernel_rfl) ?_ _
  go_wp2_with fail
  go_ret
  obtain ⟨S', P4, st4⟩ := R4.out
  exact ⟨S', rfl, P4, st4⟩
end Go.Proofs.Ytapjbgkmcplpbaa
