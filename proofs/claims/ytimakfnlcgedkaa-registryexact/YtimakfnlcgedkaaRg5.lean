import Derived.Test.YtimakfnlcgedkaaRg4
import Derived.Shelf.Sort.Plain
import Derived.Sort.OwnSortedInts
namespace Go.Proofs.Ytimakfnlcgedkaa
open Go.RowKit Go.QK Go.Maps Go.QM Go.QR
set_option maxRecDepth 100000
set_option maxHeartbeats 1000000 in
theorem group_any (b m g : Nat) (r : Reg) (d : Int) (w : World) (h : PR w b m g r) (hd : I64 d) : Calls Try.prog 16 #[ptr b, .int .i64 d] w fun e w' => e = .returned (.tuple #[slotV (r.groupS d), .int .i64 (r.groupE d)]) ∧ Below w.heap.size w w' := by
  have bb := alloc_below w (.cells #[.int .i64 0, .int .i64 0] 30)
  have HP := hide (h.below bb)
  obtain ⟨k1, k1f⟩ := (h.below bb).box.get 2 _ rfl
  unfold Reg.groupS Reg.groupE
  cases hp : place r.G d with
  | none =>
    have e0 : r.gslot d = none := by unfold Reg.gslot; rw [hp]; rfl
    rw [e0]
    have HE := hide e0
    clear e0 h bb k1f hp
    go_enter Try.func16, Try.ntmps16
    go_wp2_with (at_lookup; refine wpList_look_cm HP.out.gm Try.underlying41 zeroS (x := d) hd rfl _ _ rfl rfl rfl ?_; simp only [HE.out, Option.map_none, Option.getD_none, Option.isSome_none])
    exact bodyPost_ret (v := .tuple #[slotV (0, 0), .int .i64 122]) (by simp [results, Try.results16, go_sem]) rfl ⟨rfl, (alloc_below _ _).alloc (by simp) _⟩
  | some k =>
    obtain ⟨gs, e0⟩ : ∃ gs, r.gslot d = some gs := ⟨_, by unfold Reg.gslot; rw [hp]; rfl⟩
    rw [e0]
    have HE := hide e0
    clear e0 h bb k1f hp
    go_enter Try.func16, Try.ntmps16
    go_wp2_with (at_lookup; refine wpList_look_cm HP.out.gm Try.underlying41 zeroS (x := d) hd rfl _ _ rfl rfl rfl ?_; simp only [HE.out, Option.map_some, Option.getD_some, Option.isSome_some])
    exact bodyPost_ret (v := .tuple #[slotV gs, .int .i64 0]) (by simp [results, Try.results16, go_sem]) rfl ⟨rfl, (alloc_below _ _).alloc (by simp) _⟩
theorem entry_grp {r : Reg} (ok : r.Ok) {c : Int} {st : SlotN × Int} (h : r.entry c = some st) : ∃ k, place r.G st.2 = some k ∧ 1 ≤ st.2 ∧ st.2 ≤ 1048576 := by
  unfold Reg.entry at h
  cases hp : place r.nums c with
  | none => rw [hp] at h; cases h
  | some k =>
    rw [hp] at h
    simp only [Option.map_some, Option.some.injEq] at h
    have hlt := place_lt hp
    simp only [Reg.nums, List.length_map] at hlt
    have hm : r.C[k] ∈ r.C := List.getElem_mem hlt
    have e : st.2 = r.C[k].2 := by rw [← h]; simp [List.getD, List.getElem?_eq_getElem hlt]
    rw [e]
    obtain ⟨j, hj⟩ := place_mem (ok.grp _ hm)
    exact ⟨j, hj, (ok.inn _ hm).2.2⟩
set_option maxHeartbeats 4000000 in
theorem find_any (b m g : Nat) (r : Reg) (c : Int) (w : World) (h : PR w b m g r) (hc : I64 c) : Calls Try.prog 15 #[ptr b, .int .i64 c] w fun e w' => e = .returned (.tuple #[slotV (r.findW c), .int .i64 (r.findG c), slotV (r.findS c), .int .i64 (r.findE c)]) ∧ Below w.heap.size w w' := by
  have bb := (alloc_below w (.cells #[.int .i64 0, .int .i64 0] 30)).alloc (by simp) (.cells #[.int .i64 0, .int .i64 0] 30)
  have HP := hide (h.below bb)
  obtain ⟨k1, k1f⟩ := (h.below bb).box.get 1 _ rfl
  unfold Reg.findW Reg.findG Reg.findS Reg.findE
  cases hp : place r.nums c with
  | none =>
    have e0 : r.entry c = none := by unfold Reg.entry; rw [hp]; rfl
    rw [e0]
    have HE := hide e0
    clear e0 h bb k1f hp
    go_enter Try.func15, Try.ntmps15
    go_wp2_with (at_lookup; refine wpList_look_cm HP.out.cm Try.underlying66 zeroT (x := c) hc rfl _ _ rfl rfl rfl ?_; simp only [HE.out, Option.map_none, Option.getD_none, Option.isSome_none])
    exact bodyPost_ret (v := .tuple #[slotV (0, 0), .int .i64 0, slotV (0, 0), .int .i64 120]) (by simp [results, Try.results15, go_sem]) rfl ⟨rfl, ((alloc_below _ _).alloc (by simp) _).alloc (by simp; omega) _⟩
  | some k =>
    obtain ⟨st, e0⟩ : ∃ st, r.entry c = some st := ⟨_, by unfold Reg.entry; rw [hp]; rfl⟩
    obtain ⟨j, hj, hg1, hg2⟩ := entry_grp h.ok e0
    have hgI : I64 st.2 := by unfold I64; omega
    obtain ⟨gs, eg⟩ : ∃ gs, r.gslot st.2 = some gs := ⟨_, by unfold Reg.gslot; rw [hj]; rfl⟩
    have HGS := hide eg
    rw [e0]
    simp only [eg]
    have HE := hide e0
    have LT := hide h.lt
    clear e0 h bb k1f hp eg hj hg1 hg2
    go_enter Try.func15, Try.ntmps15
    go_upto_region 4 with (at_lookup; refine wpList_look_cm HP.out.cm Try.underlying66 zeroT (x := c) hc rfl _ _ rfl rfl rfl ?_; simp only [HE.out, Option.map_some, Option.getD_some, Option.isSome_some])
    refine named (P := Code.wp _ _ _ _) ?_
    intro w3 hw3
    have b3 : Below w.heap.size w w3 := by rw [hw3]; exact ((alloc_below _ _).alloc (by simp) _).alloc (by simp; omega) _
    have P3 := HP.out.below (w' := w3) (by rw [hw3]; exact alloc_below _ _)
    have Z1 : Cells w3 w.heap.size [.int .i64 0, .int .i64 0] := by rw [hw3]; exact ((Cells.new w #[.int .i64 0, .int .i64 0] 30).below (alloc_below _ _)).below (alloc_below _ _)
    have Z2 : Cells w3 (w.heap.size + 1) [.int .i64 0, .int .i64 0] := by
      have := (Cells.new (w.alloc (.cells #[.int .i64 0, .int .i64 0] 30)) #[.int .i64 0, .int .i64 0] 30).below (alloc_below _ (.cells #[.int .i64 st.1.1, .int .i64 st.1.2, .int .i64 st.2] 70))
      rw [hw3]
      simpa using this
    have F3 : Cells w3 (w.heap.size + 1 + 1) [.int .i64 st.1.1, .int .i64 st.1.2, .int .i64 st.2] := by
      have := (Cells.new ((w.alloc (.cells #[.int .i64 0, .int .i64 0] 30)).alloc (.cells #[.int .i64 0, .int .i64 0] 30)) #[.int .i64 st.1.1, .int .i64 st.1.2, .int .i64 st.2] 70)
      rw [hw3]
      simpa using this
    have s3 : w.heap.size + 3 ≤ w3.heap.size := by rw [hw3]; simp
    clear hw3 HP k1
    obtain ⟨F, hF⟩ : ∃ F, F = w.heap.size + 1 + 1 := ⟨_, rfl⟩
    rw [← hF] at F3 ⊢
    obtain ⟨A, hA⟩ : ∃ A, A = w.heap.size := ⟨_, rfl⟩
    rw [← hA] at b3 Z1 Z2 LT s3 hF ⊢
    have hFA : A + 2 ≤ F := by omega
    have HA := hide hA
    clear hA hF
    refine wp_region_held_drew (S := fun wq => wq.cell? ⟨b, 2, none⟩ = some (.map (some g)) ∧ wq.cell? ⟨F, 0, none⟩ = some (.int .i64 st.1.1) ∧ wq.cell? ⟨F, 1, none⟩ = some (.int .i64 st.1.2) ∧ wq.cell? ⟨F, 2, none⟩ = some (.int .i64 st.2) ∧ CM wq g (fun k => (r.gslot k).map slotV) r.G) (by kernel_rfl) ⟨(P3.box.get 2 _ rfl).1, (F3.get 0 _ rfl).1, (F3.get 1 _ rfl).1, (F3.get 2 _ rfl).1, P3.gm.drew⟩ (fun hS => ?_)
    have P4 := hide (P3.below (Below.refl _ _).drew)
    have F4 := hide F3.drew
    have U1 := hide Z1.drew
    have U2 := hide Z2.drew
    have B4 := hide b3.drew
    clear P3 F3 Z1 Z2 b3
    generalize w3.drew = w4 at *
    obtain ⟨p0, q0⟩ := U1.out.get 0 _ rfl
    obtain ⟨p1, q1⟩ := U1.out.get 1 _ rfl
    obtain ⟨p2, q2⟩ := U2.out.get 0 _ rfl
    obtain ⟨p3, q3⟩ := U2.out.get 1 _ rfl
    refine take_at 0 (some 23) (v := ?_) rfl rfl (by kernel_rfl) (by kernel_rfl) (by kernel_rfl) (fun _ _ _ h => h) ⟨by rfl, ?_⟩ hS ?_
    rotate_left
    · intro wq hSw; go_simp; try rfl
    simp only [Act.put, List.setIfInBounds_toArray, List.set_cons_zero, List.set_cons_succ]
    refine take_at 1 (some 24) (v := ?_) rfl rfl (by kernel_rfl) (by kernel_rfl) (by kernel_rfl) (fun _ _ _ h => h) ⟨by rfl, ?_⟩ hS ?_
    rotate_left
    · intro wq hSw; obtain ⟨s1, s2, s3, s4, s5⟩ := hSw; go_simp; try rfl
    simp only [Act.put, List.setIfInBounds_toArray, List.set_cons_zero, List.set_cons_succ]
    refine take_at 2 (some 25) (v := ?_) rfl rfl (by kernel_rfl) (by kernel_rfl) (by kernel_rfl) (fun _ _ _ h => h) ⟨by rfl, ?_⟩ hS ?_
    rotate_left
    · intro wq hSw; go_simp; try rfl
    simp only [Act.put, List.setIfInBounds_toArray, List.set_cons_zero, List.set_cons_succ]
    refine take_at 3 (some 26) (v := ?_) rfl rfl (by kernel_rfl) (by kernel_rfl) (by kernel_rfl) (fun _ _ _ h => h) ⟨by rfl, ?_⟩ hS ?_
    rotate_left
    · intro wq hSw; obtain ⟨s1, s2, s3, s4, s5⟩ := hSw; go_simp; try rfl
    simp only [Act.put, List.setIfInBounds_toArray, List.set_cons_zero, List.set_cons_succ]
    refine take_at 4 (some 27) (v := ?_) rfl rfl (by kernel_rfl) (by kernel_rfl) (by kernel_rfl) (fun _ _ _ h => h) ⟨by rfl, ?_⟩ hS ?_
    rotate_left
    · intro wq hSw; go_simp; try rfl
    simp only [Act.put, List.setIfInBounds_toArray, List.set_cons_zero, List.set_cons_succ]
    refine take_at 5 (some 28) (v := ?_) rfl rfl (by kernel_rfl) (by kernel_rfl) (by kernel_rfl) (fun _ _ _ h => h) ⟨by rfl, ?_⟩ hS ?_
    rotate_left
    · intro wq hSw; go_simp; try rfl
    simp only [Act.put, List.setIfInBounds_toArray, List.set_cons_zero, List.set_cons_succ]
    refine take_at 6 (some 29) (v := ?_) rfl rfl (by kernel_rfl) (by kernel_rfl) (by kernel_rfl) (fun _ _ _ h => h) ⟨by rfl, ?_⟩ hS ?_
    rotate_left
    · intro wq hSw; go_simp; try rfl
    simp only [Act.put, List.setIfInBounds_toArray, List.set_cons_zero, List.set_cons_succ]
    refine take_at 7 (some 30) (v := ?_) rfl rfl (by kernel_rfl) (by kernel_rfl) (by kernel_rfl) (fun _ _ _ h => h) ⟨by rfl, ?_⟩ hS ?_
    rotate_left
    · intro wq hSw; obtain ⟨s1, s2, s3, s4, s5⟩ := hSw; go_simp; try rfl
    simp only [Act.put, List.setIfInBounds_toArray, List.set_cons_zero, List.set_cons_succ]
    refine take_at 8 (some 31) (v := ?_) rfl rfl (by kernel_rfl) (by kernel_rfl) (by kernel_rfl) (fun _ _ _ h => h) ⟨by rfl, ?_⟩ hS ?_
    rotate_left
    · intro wq hSw; go_simp; try rfl
    simp only [Act.put, List.setIfInBounds_toArray, List.set_cons_zero, List.set_cons_succ]
    refine take_at 9 (some 32) (v := ?_) rfl rfl (by kernel_rfl) (by kernel_rfl) (by kernel_rfl) (fun _ _ _ h => h) ⟨by rfl, ?_⟩ hS ?_
    rotate_left
    · intro wq hSw; obtain ⟨s1, s2, s3, s4, s5⟩ := hSw; go_simp; try rfl
    simp only [Act.put, List.setIfInBounds_toArray, List.set_cons_zero, List.set_cons_succ]
    refine take_at 10 (some 33) (v := ?_) rfl rfl (by kernel_rfl) (by kernel_rfl) (by kernel_rfl) (fun _ _ _ h => h) ⟨by rfl, ?_⟩ hS ?_
    rotate_left
    · intro wq hSw; obtain ⟨s1, s2, s3, s4, s5⟩ := hSw; have hr := s5.look Try.underlying41 zeroS hgI; simp only [HGS.out, Option.map_some, Option.getD_some] at hr; go_simp; try rfl
    simp only [Act.put, List.setIfInBounds_toArray, List.set_cons_zero, List.set_cons_succ]
    have K1 := ((Keep.refl (fun z => z = A ∨ z = A + 1) w4).setCell (g := A) (j := 0) (fun _ => .inl rfl) (.int .i64 st.1.1)).setCell (g := A) (j := 1) (fun _ => .inl rfl) (.int .i64 st.1.2)
    have K2 := (K1.setCell (g := A + 1) (j := 0) (fun _ => .inr rfl) (.int .i64 gs.1)).setCell (g := A + 1) (j := 1) (fun _ => .inr rfl) (.int .i64 gs.2)
    refine wpAnyH_ready (rs := [11]) (by kernel_rfl) (by simp) ?_
    refine AllReadyH.cons rfl (fun K hK => ?_) AllReadyH.nil
    go_simp
    go_wp2_with fail
    refine hK.out _ _ ⟨(K1.cell (p := ⟨b, 2, none⟩) P4.out.lt.1 (by have := LT.out; show ¬ (b = A ∨ b = A + 1); omega)).trans (P4.out.box.get 2 _ rfl).1, (K1.cell (p := ⟨F, 0, none⟩) F4.out.1 (by show ¬ (F = A ∨ F = A + 1); omega)).trans (F4.out.get 0 _ rfl).1, (K1.cell (p := ⟨F, 1, none⟩) F4.out.1 (by show ¬ (F = A ∨ F = A + 1); omega)).trans (F4.out.get 1 _ rfl).1, (K1.cell (p := ⟨F, 2, none⟩) F4.out.1 (by show ¬ (F = A ∨ F = A + 1); omega)).trans (F4.out.get 2 _ rfl).1, P4.out.gm.keep K1 (by have := LT.out; show ¬ (g = A ∨ g = A + 1); omega)⟩ (fun hS => ?_)
    clear hK K
    (try simp only [Act.put, List.setIfInBounds_toArray, List.set_cons_zero, List.set_cons_succ])
    refine take_at 12 (some 5) (v := ?_) rfl rfl (by kernel_rfl) (by kernel_rfl) (by kernel_rfl) (fun _ _ _ h => h) ⟨by rfl, ?_⟩ hS ?_
    rotate_left
    · intro wq hSw; go_simp; try rfl
    simp only [Act.put, List.setIfInBounds_toArray, List.set_cons_zero, List.set_cons_succ]
    refine wpAnyH_ready (rs := [13]) (by kernel_rfl) (by simp) ?_
    refine AllReadyH.cons rfl (fun K hK => ?_) AllReadyH.nil
    go_simp
    go_wp2_with fail
    refine hK.out _ _ ⟨(K2.cell (p := ⟨b, 2, none⟩) P4.out.lt.1 (by have := LT.out; show ¬ (b = A ∨ b = A + 1); omega)).trans (P4.out.box.get 2 _ rfl).1, (K2.cell (p := ⟨F, 0, none⟩) F4.out.1 (by show ¬ (F = A ∨ F = A + 1); omega)).trans (F4.out.get 0 _ rfl).1, (K2.cell (p := ⟨F, 1, none⟩) F4.out.1 (by show ¬ (F = A ∨ F = A + 1); omega)).trans (F4.out.get 1 _ rfl).1, (K2.cell (p := ⟨F, 2, none⟩) F4.out.1 (by show ¬ (F = A ∨ F = A + 1); omega)).trans (F4.out.get 2 _ rfl).1, P4.out.gm.keep K2 (by have := LT.out; show ¬ (g = A ∨ g = A + 1); omega)⟩ (fun hS => ?_)
    clear hK K
    (try simp only [Act.put, List.setIfInBounds_toArray, List.set_cons_zero, List.set_cons_succ])
    refine take_at 14 (some 7) (v := ?_) rfl rfl (by kernel_rfl) (by kernel_rfl) (by kernel_rfl) (fun _ _ _ h => h) ⟨by rfl, ?_⟩ hS ?_
    rotate_left
    · intro wq hSw; go_simp; try rfl
    simp only [Act.put, List.setIfInBounds_toArray, List.set_cons_zero, List.set_cons_succ]
    refine wpAnyH_done (by kernel_rfl) ?_ _
    go_wp2
    have u0 : A ≠ A + 1 := by omega
    refine bodyPost_ret (v := .tuple #[slotV st.1, .int .i64 st.2, slotV gs, .int .i64 0]) (by simp [results, Try.results15, go_sem, p0, p1, p2, p3]) rfl ⟨rfl, ?_⟩
    rw [← HA.out]
    exact B4.out.trans (K2.below (by have := F4.out.1; omega) (fun z hz q => by omega))
end Go.Proofs.Ytimakfnlcgedkaa
