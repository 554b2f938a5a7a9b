import Derived.Test.YtohkmigahbellaaRef7
import Derived.Test.YtohkmigahbellaaArmed
namespace Go.Proofs.Ytohkmigahbellaa
open Go.RowKit Go.QK

/-- The program's device and the document's, that know nothing of one another. -/
structure Pr (w : World) (S : Nat → Prop) (d : Nat) (g : Dev) (T : Nat → Prop) (c : Nat) (k : Dev) : Prop where
  one : PDev w S d g
  two : RDev w T c k
  ap : ∀ b, S b → ¬ T b
section
variable {w w' : World} {S S' T T' : Nat → Prop} {d c : Nat} {g g' k k' : Dev}
theorem Pr.left (h : Pr w S d g T c k) (hd : PDev w' S' d g') (hs : Step w S w' S') : Pr w' S' d g' T c k :=
  ⟨hd, h.two.keep hs.1 h.ap, fun b hb ht => (hs.2 b hb).elim (fun q => h.ap b q ht) (fun q => by have := h.two.lt b ht; omega)⟩
theorem Pr.right (h : Pr w S d g T c k) (hd : RDev w' T' c k') (hs : Step w T w' T') : Pr w' S d g T' c k' :=
  ⟨h.one.keep hs.1 (fun b ht hb => h.ap b hb ht), hd, fun b hb ht => (hs.2 b ht).elim (fun q => h.ap b hb q) (fun q => by have := h.one.lt b hb; omega)⟩
theorem Pr.below (h : Pr w S d g T c k) (hb : Below w.heap.size w w') : Pr w' S d g T c k := ⟨h.one.below hb, h.two.below hb, h.ap⟩
/-- A step of one of the two is a step of both. -/
theorem Step.inl (hs : Step w S w' S') : Step w (fun b => S b ∨ T b) w' (fun b => S' b ∨ T b) :=
  ⟨hs.1.mono (fun _ _ q => .inl q), fun b q => q.elim (fun r => (hs.2 b r).imp .inl id) (fun r => .inl (.inr r))⟩
theorem Step.inr (hs : Step w T w' T') : Step w (fun b => S b ∨ T b) w' (fun b => S b ∨ T' b) :=
  ⟨hs.1.mono (fun _ _ q => .inr q), fun b q => q.elim (fun r => .inl (.inl r)) (fun r => (hs.2 b r).imp .inr id)⟩
end

set_option maxHeartbeats 400000 in
set_option maxRecDepth 100000 in
theorem made_any (n : Nat) (w : World) (h1 : 1 ≤ n) (h2 : n ≤ 8192) :
    Calls Try.prog 34 #[.int .i64 (n : Int)] w fun e w' => ∃ d S c T, e = .returned (.tuple #[.agg #[.pointer (some ⟨d, 0, none⟩), .pointer (some ⟨c, 0, none⟩)], .bool true]) ∧ Pr w' S d (Dev.new n) T c (Dev.new n) ∧ (∀ b, S b ∨ T b → w.heap.size ≤ b) ∧ Below w.heap.size w w' := by
  have B0 := alloc_below w (.cells #[.pointer none, .pointer none] 71)
  have C0 := hide (Cells.new w #[.pointer none, .pointer none] 71)
  go_enter Try.func34, Try.ntmps34
  go_wp2_with fail
  refine (new_ok n _ h1 h2).mono ?_
  rintro e w1 ⟨d, S, rfl, D1, f1, b1⟩
  have HD1 := hide D1
  have C1 := hide (C0.out.below b1)
  have B1 := hide (bnext B0 b1 (Nat.le_refl _))
  have sz1 := b1.size
  rw [World.size_alloc] at sz1
  clear D1 b1 C0
  go_wp2_with fail
  refine (rNew_ok n _ h1 h2).mono ?_
  rintro e w2 ⟨c, T, rfl, D2, f2, b2⟩
  have P2 := hide (show Pr w2 S d (Dev.new n) T c (Dev.new n) from ⟨HD1.out.below b2, D2, fun b hb ht => by have := HD1.out.lt b hb; have := f2 b ht; omega⟩)
  have C2 := hide (C1.out.below b2)
  have B2 := hide (bnext B1.out b2 (Nat.le_refl _))
  have sz2 := b2.size
  clear D2 b2 C1 B1
  go_wp2_with fail
  refine (num_any _ _).mono ?_
  rintro e w' ⟨rfl, hw⟩
  obtain rfl : w2 = w' := hw.symm
  obtain ⟨u0, g0⟩ := C2.out.get 0 _ rfl
  obtain ⟨u1, g1⟩ := C2.out.get 1 _ rfl
  go_wp2_with fail
  have v0 := World.cell?_setCell_same w2 ⟨w.heap.size, 0, none⟩ (.pointer (some ⟨d, 0, none⟩)) u0
  have v1 := (((C2.out.stored (j := 0) (by simp) (.pointer (some ⟨d, 0, none⟩))).stored (j := 1) (by simp) (.pointer (some ⟨c, 0, none⟩))).get 1 _ rfl).1
  refine bodyPost_ret (v := .tuple #[.agg #[.pointer (some ⟨d, 0, none⟩), .pointer (some ⟨c, 0, none⟩)], .bool true]) (by simp [results, Try.results34, go_sem, v0, v1]) rfl ?_
  have KD : Keep (fun b => b = w.heap.size) w2 ((w2.setCell ⟨w.heap.size, 0, none⟩ (.pointer (some ⟨d, 0, none⟩))).setCell ⟨w.heap.size, 1, none⟩ (.pointer (some ⟨c, 0, none⟩))) := ((Keep.refl (fun b => b = w.heap.size) w2).setCell (fun _ => rfl) _).setCell (fun _ => rfl) _
  have nS : ∀ b, S b → w.heap.size < b := fun b hb => by have := f1 b hb; simp at this; omega
  have nT : ∀ b, T b → w.heap.size < b := fun b hb => by have := f2 b hb; omega
  refine ⟨d, S, c, T, rfl, ⟨P2.out.one.keep KD (fun b q r => by have := nS b r; omega), P2.out.two.keep KD (fun b q r => by have := nT b r; omega), P2.out.ap⟩, fun b q => q.elim (fun r => Nat.le_of_lt (nS b r)) (fun r => Nat.le_of_lt (nT b r)), ?_⟩
  exact B2.out.trans (KD.below B2.out.size (fun j hj q => by omega))

set_option maxHeartbeats 1000000 in
set_option maxRecDepth 100000 in
theorem looks_any {w : World} {S T : Nat → Prop} {d c : Nat} {g : Dev} (h : Pr w S d g T c g) (hpl : g.pend.length ≤ 1000000) :
    Calls Try.prog 36 #[.agg #[.pointer (some ⟨d, 0, none⟩), .pointer (some ⟨c, 0, none⟩)]] w fun e w' => e = .returned (.bool true) ∧ Below w.heap.size w w' := by
  have B0 := alloc_below w (.cells #[.pointer (some ⟨d, 0, none⟩), .pointer (some ⟨c, 0, none⟩)] 71)
  have z0 : (w.alloc (.cells #[.pointer (some ⟨d, 0, none⟩), .pointer (some ⟨c, 0, none⟩)] 71)).cell? ⟨w.heap.size, 0, none⟩ = some (.pointer (some ⟨d, 0, none⟩)) := by rw [World.cell?_alloc_new]; rfl
  have z1 : (w.alloc (.cells #[.pointer (some ⟨d, 0, none⟩), .pointer (some ⟨c, 0, none⟩)] 71)).cell? ⟨w.heap.size, 1, none⟩ = some (.pointer (some ⟨c, 0, none⟩)) := by rw [World.cell?_alloc_new]; rfl
  have sz : (w.alloc (.cells #[.pointer (some ⟨d, 0, none⟩), .pointer (some ⟨c, 0, none⟩)] 71)).heap.size = w.heap.size + 1 := by simp
  have P0 := hide (h.below B0)
  have OK := hide h.one.ok
  obtain ⟨W, hW⟩ : ∃ W, W = w.alloc (.cells #[.pointer (some ⟨d, 0, none⟩), .pointer (some ⟨c, 0, none⟩)] 71) := ⟨_, rfl⟩
  rw [← hW] at B0 z0 z1 sz P0
  have HW := hide hW.symm
  clear hW h
  have Q := fun (n : Nat) => P0.out.below (below_drewN (Below.refl W.heap.size W) n)
  have A1 := hide (fun n => sectors_any (Q n).one)
  have A2 := hide (fun n => rSectors_any (Q n).two)
  have A3 := hide (fun n => calls_any (Q n).one)
  have A4 := hide (fun n => rCalls_any (Q n).two)
  have A5 := hide (fun n => down_any (Q n).one)
  have A6 := hide (fun n => rDown_any (Q n).two)
  have q1 : (((g.n : Nat) : Int) != ((g.n : Nat) : Int)) = false := by simp
  have q2 : ((g.calls : Int) != (g.calls : Int)) = false := by simp
  have q3 : (g.down != g.down) = false := by simp
  generalize g.n = gn at *
  generalize g.calls = gc at *
  generalize g.down = gd at *
  clear Q
  go_enter Try.func36, Try.ntmps36
  go_upto_region 1 with fail
  rw [HW.out]
  go_quiet (first | (go_at_call 25; exact Calls.quiet_of_same (A1.out _)) | (go_at_call 53; exact Calls.quiet_of_same (A2.out _)) | (go_at_call 24; exact Calls.quiet_of_same (A3.out _)) | (go_at_call 56; exact Calls.quiet_of_same (A4.out _)) | (go_at_call 18; exact Calls.quiet_of_same (A5.out _)) | (go_at_call 57; exact Calls.quiet_of_same (A6.out _)))
  go_upto_region 3 with fail
  obtain ⟨w3, hw3⟩ : ∃ w3, w3 = W.drewN nq := ⟨_, rfl⟩
  rw [← hw3]
  have b3 : Below W.heap.size W w3 := by rw [hw3]; exact below_drewN (Below.refl _ _) _
  have P3 := hide (P0.out.below b3.drew)
  have BW := hide (bnext B0 b3 (Nat.le_refl _))
  have hS0 : w3.cell? ⟨w.heap.size, 0, none⟩ = some (.pointer (some ⟨d, 0, none⟩)) ∧ w3.cell? ⟨w.heap.size, 1, none⟩ = some (.pointer (some ⟨c, 0, none⟩)) := ⟨(b3.cell (p := ⟨w.heap.size, 0, none⟩) (by show w.heap.size < _; omega)).trans z0, (b3.cell (p := ⟨w.heap.size, 1, none⟩) (by show w.heap.size < _; omega)).trans z1⟩
  have s3 : w.heap.size < w3.heap.size := by have := b3.size; omega
  clear hw3 b3 P0 A1 A2 A3 A4 A5 A6 q1 q2 q3 z0 z1 B0
  refine wp_region_held_drew (S := fun wq => wq.cell? ⟨w.heap.size, 0, none⟩ = some (.pointer (some ⟨d, 0, none⟩)) ∧ wq.cell? ⟨w.heap.size, 1, none⟩ = some (.pointer (some ⟨c, 0, none⟩))) (by kernel_rfl) hS0 (fun hS => ?_)
  refine take_at 0 (some 28) (v := ?_) rfl rfl (by kernel_rfl) (by kernel_rfl) (by kernel_rfl) (fun _ _ _ h => h) ⟨by rfl, ?_⟩ hS ?_
  rotate_left
  · intro wq hSw; obtain ⟨x0, x1⟩ := hSw; go_simp; try rfl
  simp only [Act.put, List.setIfInBounds_toArray, List.set_cons_zero, List.set_cons_succ]
  refine take_at 1 (some 29) (v := ?_) rfl rfl (by kernel_rfl) (by kernel_rfl) (by kernel_rfl) (fun _ _ _ h => h) ⟨by rfl, ?_⟩ hS ?_
  rotate_left
  · intro wq hSw; obtain ⟨x0, x1⟩ := hSw; go_simp; try rfl
  simp only [Act.put, List.setIfInBounds_toArray, List.set_cons_zero, List.set_cons_succ]
  refine take_at 3 (some 31) (v := ?_) rfl rfl (by kernel_rfl) (by kernel_rfl) (by kernel_rfl) (fun _ _ _ h => h) ⟨by rfl, ?_⟩ hS ?_
  rotate_left
  · intro wq hSw; obtain ⟨x0, x1⟩ := hSw; go_simp; try rfl
  simp only [Act.put, List.setIfInBounds_toArray, List.set_cons_zero, List.set_cons_succ]
  refine take_at 4 (some 32) (v := ?_) rfl rfl (by kernel_rfl) (by kernel_rfl) (by kernel_rfl) (fun _ _ _ h => h) ⟨by rfl, ?_⟩ hS ?_
  rotate_left
  · intro wq hSw; obtain ⟨x0, x1⟩ := hSw; go_simp; try rfl
  simp only [Act.put, List.setIfInBounds_toArray, List.set_cons_zero, List.set_cons_succ]
  refine wpAnyH_ready (rs := [2]) (by kernel_rfl) (by simp) ?_
  refine AllReadyH.cons rfl (fun K hK => ?_) AllReadyH.nil
  go_simp
  go_wp2_with fail
  refine (image_any P3.out.one).mono ?_
  rintro e w4 ⟨v4, rfl, o4, b4⟩
  have hS4 : w4.cell? ⟨w.heap.size, 0, none⟩ = some (.pointer (some ⟨d, 0, none⟩)) ∧ w4.cell? ⟨w.heap.size, 1, none⟩ = some (.pointer (some ⟨c, 0, none⟩)) := ⟨(b4.cell (p := ⟨w.heap.size, 0, none⟩) s3).trans hS.1, (b4.cell (p := ⟨w.heap.size, 1, none⟩) s3).trans hS.2⟩
  have P4 := hide (P3.out.below b4)
  have s4 : w.heap.size < w4.heap.size := Nat.lt_of_lt_of_le s3 b4.size
  have BW4 := hide (bnext BW.out (below_undrew b4) (Nat.le_refl _))
  have O4 := hide o4
  clear o4 b4 P3 BW
  go_wp2_with fail
  refine hK.out _ _ hS4 (fun hS => ?_)
  clear hK K hS0
  (try simp only [Act.put, List.setIfInBounds_toArray, List.set_cons_zero, List.set_cons_succ])
  refine wpAnyH_ready (rs := [5]) (by kernel_rfl) (by simp) ?_
  refine AllReadyH.cons rfl (fun K hK => ?_) AllReadyH.nil
  go_simp
  go_wp2_with fail
  refine (rImage_any P4.out.two).mono ?_
  rintro e w5 ⟨v5, rfl, o5, b5⟩
  have hS5 : w5.cell? ⟨w.heap.size, 0, none⟩ = some (.pointer (some ⟨d, 0, none⟩)) ∧ w5.cell? ⟨w.heap.size, 1, none⟩ = some (.pointer (some ⟨c, 0, none⟩)) := ⟨(b5.cell (p := ⟨w.heap.size, 0, none⟩) s4).trans hS4.1, (b5.cell (p := ⟨w.heap.size, 1, none⟩) s4).trans hS4.2⟩
  have P5 := hide (P4.out.below b5)
  have s5 : w.heap.size < w5.heap.size := Nat.lt_of_lt_of_le s4 b5.size
  have BW5 := hide (bnext BW4.out b5 (Nat.le_refl _))
  obtain ⟨a4, c4, hv4, sn4, _⟩ := (Owns.below O4.out b5).seen
  obtain ⟨a5, c5, hv5, sn5, _⟩ := o5.seen
  rw [ints_length] at hv4 hv5
  subst hv4 hv5
  have SA := hide (same_any a4 a5 g.img g.img c4 c5 w5 sn4 sn5 OK.out.bytes OK.out.bytes)
  rw [decide_eq_true rfl] at SA
  clear o5 b5 P4 BW4 O4 sn4 sn5
  go_wp2_with fail
  refine hK.out _ _ hS5 (fun hS => ?_)
  clear hK K hS4
  (try simp only [Act.put, List.setIfInBounds_toArray, List.set_cons_zero, List.set_cons_succ])
  refine wpAnyH_ready (rs := [6]) (by kernel_rfl) (by simp) ?_
  refine AllReadyH.cons rfl (fun K hK => ?_) AllReadyH.nil
  go_simp
  go_wp2_with fail
  refine SA.out.mono ?_
  rintro e w' ⟨rfl, hw⟩
  obtain rfl : w5 = w' := hw.symm
  go_wp2_with fail
  refine hK.out _ _ hS5 (fun hS => ?_)
  clear hK K SA
  (try simp only [Act.put, List.setIfInBounds_toArray, List.set_cons_zero, List.set_cons_succ])
  refine take_at 7 (some 35) (v := ?_) rfl rfl (by kernel_rfl) (by kernel_rfl) (by kernel_rfl) (fun _ _ _ h => h) ⟨by rfl, ?_⟩ hS ?_
  rotate_left
  · intro wq hSw; obtain ⟨x0, x1⟩ := hSw; go_simp; try rfl
  simp only [Act.put, List.setIfInBounds_toArray, List.set_cons_zero, List.set_cons_succ]
  refine take_at 8 (some 36) (v := ?_) rfl rfl (by kernel_rfl) (by kernel_rfl) (by kernel_rfl) (fun _ _ _ h => h) ⟨by rfl, ?_⟩ hS ?_
  rotate_left
  · intro wq hSw; obtain ⟨x0, x1⟩ := hSw; go_simp; try rfl
  simp only [Act.put, List.setIfInBounds_toArray, List.set_cons_zero, List.set_cons_succ]
  refine take_at 9 (some 37) (v := ?_) rfl rfl (by kernel_rfl) (by kernel_rfl) (by kernel_rfl) (fun _ _ _ h => h) ⟨by rfl, ?_⟩ hS ?_
  rotate_left
  · intro wq hSw; obtain ⟨x0, x1⟩ := hSw; go_simp; try rfl
  simp only [Act.put, List.setIfInBounds_toArray, List.set_cons_zero, List.set_cons_succ]
  refine take_at 11 (some 39) (v := ?_) rfl rfl (by kernel_rfl) (by kernel_rfl) (by kernel_rfl) (fun _ _ _ h => h) ⟨by rfl, ?_⟩ hS ?_
  rotate_left
  · intro wq hSw; obtain ⟨x0, x1⟩ := hSw; go_simp; try rfl
  simp only [Act.put, List.setIfInBounds_toArray, List.set_cons_zero, List.set_cons_succ]
  refine take_at 12 (some 40) (v := ?_) rfl rfl (by kernel_rfl) (by kernel_rfl) (by kernel_rfl) (fun _ _ _ h => h) ⟨by rfl, ?_⟩ hS ?_
  rotate_left
  · intro wq hSw; obtain ⟨x0, x1⟩ := hSw; go_simp; try rfl
  simp only [Act.put, List.setIfInBounds_toArray, List.set_cons_zero, List.set_cons_succ]
  refine wpAnyH_ready (rs := [10]) (by kernel_rfl) (by simp) ?_
  refine AllReadyH.cons rfl (fun K hK => ?_) AllReadyH.nil
  go_simp
  go_wp2_with fail
  refine (cache_any P5.out.one hpl).mono ?_
  rintro e w6 ⟨qs, rfl, hq6, r6, f6, b6⟩
  have hS6 : w6.cell? ⟨w.heap.size, 0, none⟩ = some (.pointer (some ⟨d, 0, none⟩)) ∧ w6.cell? ⟨w.heap.size, 1, none⟩ = some (.pointer (some ⟨c, 0, none⟩)) := ⟨(b6.cell (p := ⟨w.heap.size, 0, none⟩) s5).trans hS5.1, (b6.cell (p := ⟨w.heap.size, 1, none⟩) s5).trans hS5.2⟩
  have P6 := hide (P5.out.below b6)
  have s6 : w.heap.size < w6.heap.size := Nat.lt_of_lt_of_le s5 b6.size
  have BW6 := hide (bnext BW5.out b6 (Nat.le_refl _))
  have PS6 := hide (cache_seen OK.out hq6 r6 f6)
  have HQ6 := hide hq6
  have hql : qs.length ≤ 1000000 := by have := congrArg List.length hq6; simp at this; omega
  clear r6 f6 b6 P5 BW5 hq6
  go_wp2_with fail
  refine hK.out _ _ hS6 (fun hS => ?_)
  clear hK K hS5
  (try simp only [Act.put, List.setIfInBounds_toArray, List.set_cons_zero, List.set_cons_succ])
  refine wpAnyH_ready (rs := [13]) (by kernel_rfl) (by simp) ?_
  refine AllReadyH.cons rfl (fun K hK => ?_) AllReadyH.nil
  go_simp
  go_wp2_with fail
  refine (rCache_any P6.out.two hpl).mono ?_
  rintro e w7 ⟨v7, rs, rfl, hq7, r7, f7, b7⟩
  have hS7 : w7.cell? ⟨w.heap.size, 0, none⟩ = some (.pointer (some ⟨d, 0, none⟩)) ∧ w7.cell? ⟨w.heap.size, 1, none⟩ = some (.pointer (some ⟨c, 0, none⟩)) := ⟨(b7.cell (p := ⟨w.heap.size, 0, none⟩) s6).trans hS6.1, (b7.cell (p := ⟨w.heap.size, 1, none⟩) s6).trans hS6.2⟩
  have BW7 := hide (bnext BW6.out b7 (Nat.le_refl _))
  obtain ⟨a7, c7, hv7, _⟩ := r7.form
  subst hv7
  have PS7 : PSeen w7 a7 rs := PSeen.of r7 (fun p hp => ⟨f7 p hp, (OK.out.pend p.out (by rw [← hq7]; exact List.mem_map.2 ⟨p, hp, rfl⟩)).2.2⟩)
  have CE := hide (cached_eq _ a7 qs rs qs.length c7 w7 (PS6.out.below b7) PS7 (by rw [HQ6.out, hq7]) hql)
  clear r7 f7 b7 P6 BW6 PS6 PS7 hq7
  go_wp2_with fail
  refine hK.out _ _ hS7 (fun hS => ?_)
  clear hK K hS6
  (try simp only [Act.put, List.setIfInBounds_toArray, List.set_cons_zero, List.set_cons_succ])
  refine wpAnyH_ready (rs := [14]) (by kernel_rfl) (by simp) ?_
  refine AllReadyH.cons rfl (fun K hK => ?_) AllReadyH.nil
  go_simp
  go_wp2_with fail
  refine CE.out.mono ?_
  rintro e w8 ⟨rfl, b8⟩
  have s7 : w.heap.size < w7.heap.size := by have := BW7.out.size; exact World.block_lt_of_cell? _ ⟨w.heap.size, 0, none⟩ hS7.1
  have hS8 : w8.cell? ⟨w.heap.size, 0, none⟩ = some (.pointer (some ⟨d, 0, none⟩)) ∧ w8.cell? ⟨w.heap.size, 1, none⟩ = some (.pointer (some ⟨c, 0, none⟩)) := ⟨(b8.cell (p := ⟨w.heap.size, 0, none⟩) s7).trans hS7.1, (b8.cell (p := ⟨w.heap.size, 1, none⟩) s7).trans hS7.2⟩
  have BW8 := hide (bnext BW7.out b8 (Nat.le_refl _))
  clear b8 CE BW7
  go_wp2_with fail
  refine hK.out _ _ hS8 (fun hS => ?_)
  clear hK K hS7
  (try simp only [Act.put, List.setIfInBounds_toArray, List.set_cons_zero, List.set_cons_succ])
  refine take_at 15 (some 43) (v := ?_) rfl rfl (by kernel_rfl) (by kernel_rfl) (by kernel_rfl) (fun _ _ _ h => h) ⟨by rfl, ?_⟩ hS ?_
  rotate_left
  · intro wq hSw; obtain ⟨x0, x1⟩ := hSw; go_simp; try rfl
  simp only [Act.put, List.setIfInBounds_toArray, List.set_cons_zero, List.set_cons_succ]
  refine take_at 16 (some 2) (v := ?_) rfl rfl (by kernel_rfl) (by kernel_rfl) (by kernel_rfl) (fun _ _ _ h => h) ⟨by rfl, ?_⟩ hS ?_
  rotate_left
  · intro wq hSw; obtain ⟨x0, x1⟩ := hSw; go_simp; try rfl
  simp only [Act.put, List.setIfInBounds_toArray, List.set_cons_zero, List.set_cons_succ]
  refine wpAnyH_done (by kernel_rfl) ?_ _
  go_wp2_with fail
  go_ret
  exact ⟨rfl, BW8.out⟩
end Go.Proofs.Ytohkmigahbellaa
