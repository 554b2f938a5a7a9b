import Derived.Test.YtadppakflbilcaaRm14
import Derived.Test.YtadppakflbilcaaRmX
namespace Go.Proofs.Ytadppakflbilcaa
open Go.RowKit Go.QK Go.Maps Go.QM Go.QR
set_option maxRecDepth 100000
/-- What a call on the blocks of U has done. -/
structure Step (U : Nat → Prop) (w w' : World) (U' : Nat → Prop) : Prop where
  sub : ∀ k, k < w.heap.size → U' k → U k
  keep : Keep U w w'
theorem Step.trans {U U1 U2 : Nat → Prop} {w w1 w2 : World} (a : Step U w w1 U1) (b : Step U1 w1 w2 U2) : Step U w w2 U2 :=
  ⟨fun k hk q => a.sub k hk (b.sub k (Nat.lt_of_lt_of_le hk a.keep.size) q), a.keep.trans b.keep (fun j hj q => a.sub j hj q)⟩
theorem Step.below {U : Nat → Prop} {w w' : World} (h : Below w.heap.size w w') : Step U w w' U := ⟨fun _ _ q => q, Keep.of_below h⟩
theorem Step.refl (U : Nat → Prop) (w : World) : Step U w w U := ⟨fun _ _ q => q, Keep.refl _ _⟩
/-- The program's room and the document's, in the blocks of U. -/
structure Duo (w : World) (U : Nat → Prop) (p r : Nat) (L L' : List Tx) : Prop where
  lt : ∀ k, U k → k < w.heap.size
  both : ∃ S1 S2, Room w S1 p L ∧ Lst refL w S2 r L' ∧ (∀ k, S1 k → U k) ∧ (∀ k, S2 k → U k) ∧ ∀ k, S1 k → ¬ S2 k
section
variable {w w' : World} {U T : Nat → Prop} {p r : Nat} {L L' : List Tx}
theorem Duo.keep (h : Duo w U p r L L') (hk : Keep T w w') (hn : ∀ k, U k → ¬ T k) : Duo w' U p r L L' := by
  obtain ⟨S1, S2, h1, h2, h3, h4, h5⟩ := h.both
  exact ⟨fun k q => Nat.lt_of_lt_of_le (h.lt k q) hk.size, S1, S2, h1.keep hk (fun k q => hn k (h3 k q)), h2.keep hk (fun k q => hn k (h4 k q)), h3, h4, h5⟩
theorem Duo.below (h : Duo w U p r L L') (hk : Below w.heap.size w w') : Duo w' U p r L L' := h.keep (Keep.of_below (S := fun _ => False) hk) (fun _ _ => id)
theorem Duo.ok (h : Duo w U p r L L') : Ok L := by obtain ⟨S1, S2, h1, _⟩ := h.both; exact h1.ok
theorem Duo.prog (h : Duo w U p r L L') : ∃ S1, Room w S1 p L ∧ ∀ L2 w', Out w S1 p L2 w' → ∃ U', Duo w' U' p r L2 L' ∧ Step U w w' U' := by
  obtain ⟨S1, S2, h1, h2, h3, h4, h5⟩ := h.both
  refine ⟨S1, h1, fun L2 w' o => ?_⟩
  obtain ⟨S', o1, o2, o3⟩ := o
  refine ⟨fun k => S' k ∨ S2 k, ⟨fun k q => q.elim (o1.lt k) (fun q => Nat.lt_of_lt_of_le (h2.lt k q) o3.size), S', S2, o1, h2.keep o3 (fun k q z => h5 k z q), fun k q => .inl q, fun k q => .inr q, fun k q z => h5 k (o2 k (h2.lt k z) q) z⟩, ⟨fun k hk q => q.elim (fun q => h3 k (o2 k hk q)) (h4 k), o3.mono (fun k _ q => h3 k q)⟩⟩
theorem Duo.ref (h : Duo w U p r L L') : ∃ S2, Lst refL w S2 r L' ∧ ∀ L2 w', OutL refL w S2 r L2 w' → ∃ U', Duo w' U' p r L L2 ∧ Step U w w' U' := by
  obtain ⟨S1, S2, h1, h2, h3, h4, h5⟩ := h.both
  refine ⟨S2, h2, fun L2 w' o => ?_⟩
  obtain ⟨S', o1, o2, o3⟩ := o
  refine ⟨fun k => S1 k ∨ S' k, ⟨fun k q => q.elim (fun q => Nat.lt_of_lt_of_le (h1.lt k q) o3.size) (o1.lt k), S1, S', h1.keep o3 (fun k q z => h5 k q z), o1, fun k q => .inl q, fun k q => .inr q, fun k q z => h5 k q (o2 k (h1.lt k q) z)⟩, ⟨fun k hk q => q.elim (h3 k) (fun q => h4 k (o2 k hk q)), o3.mono (fun k _ q => h4 k q)⟩⟩
end
abbrev bothV (p r : Nat) : Value := .agg #[ptr p, ptr r]
/-- Behind a play. -/
def Played (w : World) (U : Nat → Prop) (p r : Nat) (w' : World) : Prop := ∃ U' L, Duo w' U' p r L L ∧ Step U w w' U'
theorem Played.of {w w1 w' : World} {U : Nat → Prop} {p r : Nat} {U' : Nat → Prop} {L : List Tx} (hb : Below w.heap.size w w1) (h : Duo w' U' p r L L) (hs : Step U w1 w' U') : Played w U p r w' := ⟨U', L, h, (Step.below hb).trans hs⟩
set_option maxHeartbeats 4000000 in
theorem play1_any (U : Nat → Prop) (p r : Nat) (L : List Tx) (o : OpX) (w : World) (h : Duo w U p r L L) (ho : o.Ok) (hk : o.kind = 1) : Calls Try.prog 23 #[bothV p r, .agg o.cs.toArray] w fun e w' => e = .returned (.bool true) ∧ Played w U p r w' := by
  obtain ⟨kind, two, tx, ctr, what, free, more⟩ := o
  obtain ⟨i2, i3, i5, i6⟩ := ho
  simp only at hk i2 i3 i5 i6
  subst hk
  simp only [OpX.cs]
  have NEQ : ¬ U w.heap.size ∧ ¬ U (w.heap.size + 1) := ⟨fun q => by have := h.lt _ q; omega, fun q => by have := h.lt _ q; omega⟩
  have HD := hide h
  clear h
  go_enter Try.func23, Try.ntmps23
  go_upto_region 3 with fail
  refine named (P := Code.wp _ _ _ _) ?_
  intro w1 hw1
  have hb1 : Below w.heap.size w w1 := by rw [hw1]; exact (alloc_below _ _).alloc (by simp) _
  have HBX := hide (show Cells w1 w.heap.size [ptr p, ptr r] from by
    rw [hw1]
    exact (Cells.new w #[ptr p, ptr r] 54).keep (Keep.of_below (S := fun _ => False) (alloc_below _ _)) id)
  have HOX := hide (show Cells w1 (w.heap.size + 1) [.int .i64 1, .bool two, .int .i64 tx, .int .i64 ctr, .int .i64 what, .int .i64 free, .int .i64 more] from by
    rw [hw1]
    have := Cells.new (w.alloc (.cells #[ptr p, ptr r] 54)) #[.int .i64 1, .bool two, .int .i64 tx, .int .i64 ctr, .int .i64 what, .int .i64 free, .int .i64 more] 26
    simpa using this)
  have D1 := hide (HD.out.below hb1)
  have HB1 := hide hb1
  have HNU := hide NEQ
  obtain ⟨n1, hn1⟩ : ∃ n1, n1 = w.heap.size + 1 := ⟨_, rfl⟩
  obtain ⟨n0, hn0⟩ : ∃ n0, n0 = w.heap.size := ⟨_, rfl⟩
  rw [← hn1] at HOX HNU ⊢
  rw [← hn0] at HBX HNU ⊢
  clear hn0 hn1 hw1 hb1 NEQ HD
  refine wp_region_held_drew (S := fun wq => Keep (fun z => U z) w1 wq) (by kernel_rfl) (Keep.refl _ _).drew (fun hS => ?_)
  refine take_at 0 (some 9) (v := ?_) rfl rfl (by kernel_rfl) (by kernel_rfl) (by kernel_rfl) (fun _ _ _ h => h) ⟨by rfl, ?_⟩ hS ?_
  rotate_left
  · intro wq hSw; go_simp; try rfl
  simp only [Act.put, List.setIfInBounds_toArray, List.set_cons_zero, List.set_cons_succ]
  refine take_at 1 (some 10) (v := ?_) rfl rfl (by kernel_rfl) (by kernel_rfl) (by kernel_rfl) (fun _ _ _ h => h) ⟨by rfl, ?_⟩ hS ?_
  rotate_left
  · intro wq hSw; have q := ((HBX.out.keep hSw HNU.out.1).get 0 _ rfl).1; go_simp; try rfl
  simp only [Act.put, List.setIfInBounds_toArray, List.set_cons_zero, List.set_cons_succ]
  refine take_at 2 (some 11) (v := ?_) rfl rfl (by kernel_rfl) (by kernel_rfl) (by kernel_rfl) (fun _ _ _ h => h) ⟨by rfl, ?_⟩ hS ?_
  rotate_left
  · intro wq hSw; go_simp; try rfl
  simp only [Act.put, List.setIfInBounds_toArray, List.set_cons_zero, List.set_cons_succ]
  refine take_at 3 (some 12) (v := ?_) rfl rfl (by kernel_rfl) (by kernel_rfl) (by kernel_rfl) (fun _ _ _ h => h) ⟨by rfl, ?_⟩ hS ?_
  rotate_left
  · intro wq hSw; have q := ((HOX.out.keep hSw HNU.out.2).get 2 _ rfl).1; go_simp; try rfl
  simp only [Act.put, List.setIfInBounds_toArray, List.set_cons_zero, List.set_cons_succ]
  refine take_at 6 (some 15) (v := ?_) rfl rfl (by kernel_rfl) (by kernel_rfl) (by kernel_rfl) (fun _ _ _ h => h) ⟨by rfl, ?_⟩ hS ?_
  rotate_left
  · intro wq hSw; go_simp; try rfl
  simp only [Act.put, List.setIfInBounds_toArray, List.set_cons_zero, List.set_cons_succ]
  refine take_at 7 (some 16) (v := ?_) rfl rfl (by kernel_rfl) (by kernel_rfl) (by kernel_rfl) (fun _ _ _ h => h) ⟨by rfl, ?_⟩ hS ?_
  rotate_left
  · intro wq hSw; have q := ((HBX.out.keep hSw HNU.out.1).get 1 _ rfl).1; go_simp; try rfl
  simp only [Act.put, List.setIfInBounds_toArray, List.set_cons_zero, List.set_cons_succ]
  refine take_at 8 (some 17) (v := ?_) rfl rfl (by kernel_rfl) (by kernel_rfl) (by kernel_rfl) (fun _ _ _ h => h) ⟨by rfl, ?_⟩ hS ?_
  rotate_left
  · intro wq hSw; go_simp; try rfl
  simp only [Act.put, List.setIfInBounds_toArray, List.set_cons_zero, List.set_cons_succ]
  refine take_at 9 (some 18) (v := ?_) rfl rfl (by kernel_rfl) (by kernel_rfl) (by kernel_rfl) (fun _ _ _ h => h) ⟨by rfl, ?_⟩ hS ?_
  rotate_left
  · intro wq hSw; have q := ((HOX.out.keep hSw HNU.out.2).get 2 _ rfl).1; go_simp; try rfl
  simp only [Act.put, List.setIfInBounds_toArray, List.set_cons_zero, List.set_cons_succ]
  have D2 := hide (D1.out.below (Below.refl _ _).drew)
  have B2 := hide (HB1.out.trans ((Below.refl w1.heap.size w1).drew.mono HB1.out.size))
  have K2 := hide hS
  have K0 := hide hS.size
  clear hS D1 HB1
  generalize w1.drew = x1 at *
  obtain ⟨S1, R1, st1⟩ := D2.out.prog
  have KP := Begin_any S1 p L tx x1 R1 i2
  have OK := hide D2.out.ok
  refine wpAnyH_ready (rs := [4]) (by kernel_rfl) (by simp) ?_
  refine AllReadyH.cons rfl (fun K hK => ?_) AllReadyH.nil
  go_simp
  go_wp2_with fail
  refine KP.mono ?_
  rintro e x2 ⟨rfl, o⟩
  obtain ⟨U2, D3, s3⟩ := st1 _ _ o
  have DD := hide D3
  have SS := hide s3
  have K3 := hide (K2.out.trans s3.keep (fun _ _ q => q))
  clear o D3 s3 st1 R1 KP D2 K2
  go_wp2_with fail
  refine hK.out _ _ K3.out (fun hS => ?_)
  clear hK K hS
  (try simp only [Act.put, List.setIfInBounds_toArray, List.set_cons_zero, List.set_cons_succ])
  refine wpAnyH_ready (rs := [5]) (by kernel_rfl) (by simp) ?_
  refine AllReadyH.cons rfl (fun K hK => ?_) AllReadyH.nil
  go_simp
  go_wp2_with fail
  refine (num_eq _ _).mono ?_
  rintro e wz ⟨rfl, rfl⟩
  go_wp2_with fail
  refine hK.out _ _ K3.out (fun hS => ?_)
  clear hK K hS
  (try simp only [Act.put, List.setIfInBounds_toArray, List.set_cons_zero, List.set_cons_succ])
  obtain ⟨S2, R2, st2⟩ := DD.out.ref
  have KR := rBegin_any S2 r L tx x2 R2 OK.out 
  refine wpAnyH_ready (rs := [10]) (by kernel_rfl) (by simp) ?_
  refine AllReadyH.cons rfl (fun K hK => ?_) AllReadyH.nil
  go_simp
  go_wp2_with fail
  refine KR.mono ?_
  rintro e x3 ⟨rfl, o⟩
  obtain ⟨U3, D4, s4⟩ := st2 _ _ o
  have FIN := hide (Played.of B2.out D4 (SS.out.trans s4))
  have K4 := hide (K3.out.trans s4.keep (fun j hj q => SS.out.sub j (by have := hj; have := K0.out; omega) q))
  clear o D4 s4 st2 R2 KR DD SS K3
  go_wp2_with fail
  refine hK.out _ _ K4.out (fun hS => ?_)
  clear hK K
  (try simp only [Act.put, List.setIfInBounds_toArray, List.set_cons_zero, List.set_cons_succ])
  refine take_at 11 (some 20) (v := ?_) rfl rfl (by kernel_rfl) (by kernel_rfl) (by kernel_rfl) (fun _ _ _ h => h) ⟨by rfl, ?_⟩ hS ?_
  rotate_left
  · intro wq hSw; go_simp; try rfl
  simp only [Act.put, List.setIfInBounds_toArray, List.set_cons_zero, List.set_cons_succ]
  refine take_at 12 (some 4) (v := ?_) rfl rfl (by kernel_rfl) (by kernel_rfl) (by kernel_rfl) (fun _ _ _ h => h) ⟨by rfl, ?_⟩ hS ?_
  rotate_left
  · intro wq hSw; go_simp; try rfl
  simp only [Act.put, List.setIfInBounds_toArray, List.set_cons_zero, List.set_cons_succ]
  refine wpAnyH_done (by kernel_rfl) ?_ _
  go_wp2_with fail
  go_ret
  exact ⟨rfl, FIN.out⟩
set_option maxHeartbeats 4000000 in
theorem play2_any (U : Nat → Prop) (p r : Nat) (L : List Tx) (o : OpX) (w : World) (h : Duo w U p r L L) (ho : o.Ok) (hk : o.kind = 2) : Calls Try.prog 23 #[bothV p r, .agg o.cs.toArray] w fun e w' => e = .returned (.bool true) ∧ Played w U p r w' := by
  obtain ⟨kind, two, tx, ctr, what, free, more⟩ := o
  obtain ⟨i2, i3, i5, i6⟩ := ho
  simp only at hk i2 i3 i5 i6
  subst hk
  simp only [OpX.cs]
  have NEQ : ¬ U w.heap.size ∧ ¬ U (w.heap.size + 1) := ⟨fun q => by have := h.lt _ q; omega, fun q => by have := h.lt _ q; omega⟩
  have HD := hide h
  clear h
  go_enter Try.func23, Try.ntmps23
  go_upto_region 5 with fail
  refine named (P := Code.wp _ _ _ _) ?_
  intro w1 hw1
  have hb1 : Below w.heap.size w w1 := by rw [hw1]; exact (alloc_below _ _).alloc (by simp) _
  have HBX := hide (show Cells w1 w.heap.size [ptr p, ptr r] from by
    rw [hw1]
    exact (Cells.new w #[ptr p, ptr r] 54).keep (Keep.of_below (S := fun _ => False) (alloc_below _ _)) id)
  have HOX := hide (show Cells w1 (w.heap.size + 1) [.int .i64 2, .bool two, .int .i64 tx, .int .i64 ctr, .int .i64 what, .int .i64 free, .int .i64 more] from by
    rw [hw1]
    have := Cells.new (w.alloc (.cells #[ptr p, ptr r] 54)) #[.int .i64 2, .bool two, .int .i64 tx, .int .i64 ctr, .int .i64 what, .int .i64 free, .int .i64 more] 26
    simpa using this)
  have D1 := hide (HD.out.below hb1)
  have HB1 := hide hb1
  have HNU := hide NEQ
  obtain ⟨n1, hn1⟩ : ∃ n1, n1 = w.heap.size + 1 := ⟨_, rfl⟩
  obtain ⟨n0, hn0⟩ : ∃ n0, n0 = w.heap.size := ⟨_, rfl⟩
  rw [← hn1] at HOX HNU ⊢
  rw [← hn0] at HBX HNU ⊢
  clear hn0 hn1 hw1 hb1 NEQ HD
  refine wp_region_held_drew (S := fun wq => Keep (fun z => U z) w1 wq) (by kernel_rfl) (Keep.refl _ _).drew (fun hS => ?_)
  refine take_at 0 (some 23) (v := ?_) rfl rfl (by kernel_rfl) (by kernel_rfl) (by kernel_rfl) (fun _ _ _ h => h) ⟨by rfl, ?_⟩ hS ?_
  rotate_left
  · intro wq hSw; go_simp; try rfl
  simp only [Act.put, List.setIfInBounds_toArray, List.set_cons_zero, List.set_cons_succ]
  refine take_at 1 (some 24) (v := ?_) rfl rfl (by kernel_rfl) (by kernel_rfl) (by kernel_rfl) (fun _ _ _ h => h) ⟨by rfl, ?_⟩ hS ?_
  rotate_left
  · intro wq hSw; have q := ((HBX.out.keep hSw HNU.out.1).get 0 _ rfl).1; go_simp; try rfl
  simp only [Act.put, List.setIfInBounds_toArray, List.set_cons_zero, List.set_cons_succ]
  refine take_at 2 (some 25) (v := ?_) rfl rfl (by kernel_rfl) (by kernel_rfl) (by kernel_rfl) (fun _ _ _ h => h) ⟨by rfl, ?_⟩ hS ?_
  rotate_left
  · intro wq hSw; go_simp; try rfl
  simp only [Act.put, List.setIfInBounds_toArray, List.set_cons_zero, List.set_cons_succ]
  refine take_at 3 (some 26) (v := ?_) rfl rfl (by kernel_rfl) (by kernel_rfl) (by kernel_rfl) (fun _ _ _ h => h) ⟨by rfl, ?_⟩ hS ?_
  rotate_left
  · intro wq hSw; have q := ((HOX.out.keep hSw HNU.out.2).get 2 _ rfl).1; go_simp; try rfl
  simp only [Act.put, List.setIfInBounds_toArray, List.set_cons_zero, List.set_cons_succ]
  refine take_at 4 (some 27) (v := ?_) rfl rfl (by kernel_rfl) (by kernel_rfl) (by kernel_rfl) (fun _ _ _ h => h) ⟨by rfl, ?_⟩ hS ?_
  rotate_left
  · intro wq hSw; go_simp; try rfl
  simp only [Act.put, List.setIfInBounds_toArray, List.set_cons_zero, List.set_cons_succ]
  refine take_at 5 (some 28) (v := ?_) rfl rfl (by kernel_rfl) (by kernel_rfl) (by kernel_rfl) (fun _ _ _ h => h) ⟨by rfl, ?_⟩ hS ?_
  rotate_left
  · intro wq hSw; have q := ((HOX.out.keep hSw HNU.out.2).get 3 _ rfl).1; go_simp; try rfl
  simp only [Act.put, List.setIfInBounds_toArray, List.set_cons_zero, List.set_cons_succ]
  refine take_at 8 (some 31) (v := ?_) rfl rfl (by kernel_rfl) (by kernel_rfl) (by kernel_rfl) (fun _ _ _ h => h) ⟨by rfl, ?_⟩ hS ?_
  rotate_left
  · intro wq hSw; go_simp; try rfl
  simp only [Act.put, List.setIfInBounds_toArray, List.set_cons_zero, List.set_cons_succ]
  refine take_at 9 (some 32) (v := ?_) rfl rfl (by kernel_rfl) (by kernel_rfl) (by kernel_rfl) (fun _ _ _ h => h) ⟨by rfl, ?_⟩ hS ?_
  rotate_left
  · intro wq hSw; have q := ((HBX.out.keep hSw HNU.out.1).get 1 _ rfl).1; go_simp; try rfl
  simp only [Act.put, List.setIfInBounds_toArray, List.set_cons_zero, List.set_cons_succ]
  refine take_at 10 (some 33) (v := ?_) rfl rfl (by kernel_rfl) (by kernel_rfl) (by kernel_rfl) (fun _ _ _ h => h) ⟨by rfl, ?_⟩ hS ?_
  rotate_left
  · intro wq hSw; go_simp; try rfl
  simp only [Act.put, List.setIfInBounds_toArray, List.set_cons_zero, List.set_cons_succ]
  refine take_at 11 (some 34) (v := ?_) rfl rfl (by kernel_rfl) (by kernel_rfl) (by kernel_rfl) (fun _ _ _ h => h) ⟨by rfl, ?_⟩ hS ?_
  rotate_left
  · intro wq hSw; have q := ((HOX.out.keep hSw HNU.out.2).get 2 _ rfl).1; go_simp; try rfl
  simp only [Act.put, List.setIfInBounds_toArray, List.set_cons_zero, List.set_cons_succ]
  refine take_at 12 (some 35) (v := ?_) rfl rfl (by kernel_rfl) (by kernel_rfl) (by kernel_rfl) (fun _ _ _ h => h) ⟨by rfl, ?_⟩ hS ?_
  rotate_left
  · intro wq hSw; go_simp; try rfl
  simp only [Act.put, List.setIfInBounds_toArray, List.set_cons_zero, List.set_cons_succ]
  refine take_at 13 (some 36) (v := ?_) rfl rfl (by kernel_rfl) (by kernel_rfl) (by kernel_rfl) (fun _ _ _ h => h) ⟨by rfl, ?_⟩ hS ?_
  rotate_left
  · intro wq hSw; have q := ((HOX.out.keep hSw HNU.out.2).get 3 _ rfl).1; go_simp; try rfl
  simp only [Act.put, List.setIfInBounds_toArray, List.set_cons_zero, List.set_cons_succ]
  have D2 := hide (D1.out.below (Below.refl _ _).drew)
  have B2 := hide (HB1.out.trans ((Below.refl w1.heap.size w1).drew.mono HB1.out.size))
  have K2 := hide hS
  have K0 := hide hS.size
  clear hS D1 HB1
  generalize w1.drew = x1 at *
  obtain ⟨S1, R1, st1⟩ := D2.out.prog
  have KP := Hold_any S1 p L tx ctr x1 R1 i2 i3
  have OK := hide D2.out.ok
  refine wpAnyH_ready (rs := [6]) (by kernel_rfl) (by simp) ?_
  refine AllReadyH.cons rfl (fun K hK => ?_) AllReadyH.nil
  go_simp
  go_wp2_with fail
  refine KP.mono ?_
  rintro e x2 ⟨rfl, o⟩
  obtain ⟨U2, D3, s3⟩ := st1 _ _ o
  have DD := hide D3
  have SS := hide s3
  have K3 := hide (K2.out.trans s3.keep (fun _ _ q => q))
  clear o D3 s3 st1 R1 KP D2 K2
  go_wp2_with fail
  refine hK.out _ _ K3.out (fun hS => ?_)
  clear hK K hS
  (try simp only [Act.put, List.setIfInBounds_toArray, List.set_cons_zero, List.set_cons_succ])
  refine wpAnyH_ready (rs := [7]) (by kernel_rfl) (by simp) ?_
  refine AllReadyH.cons rfl (fun K hK => ?_) AllReadyH.nil
  go_simp
  go_wp2_with fail
  refine (num_eq _ _).mono ?_
  rintro e wz ⟨rfl, rfl⟩
  go_wp2_with fail
  refine hK.out _ _ K3.out (fun hS => ?_)
  clear hK K hS
  (try simp only [Act.put, List.setIfInBounds_toArray, List.set_cons_zero, List.set_cons_succ])
  obtain ⟨S2, R2, st2⟩ := DD.out.ref
  have KR := rHold_any S2 r L tx ctr x2 R2 OK.out 
  refine wpAnyH_ready (rs := [14]) (by kernel_rfl) (by simp) ?_
  refine AllReadyH.cons rfl (fun K hK => ?_) AllReadyH.nil
  go_simp
  go_wp2_with fail
  refine KR.mono ?_
  rintro e x3 ⟨rfl, o⟩
  obtain ⟨U3, D4, s4⟩ := st2 _ _ o
  have FIN := hide (Played.of B2.out D4 (SS.out.trans s4))
  have K4 := hide (K3.out.trans s4.keep (fun j hj q => SS.out.sub j (by have := hj; have := K0.out; omega) q))
  clear o D4 s4 st2 R2 KR DD SS K3
  go_wp2_with fail
  refine hK.out _ _ K4.out (fun hS => ?_)
  clear hK K
  (try simp only [Act.put, List.setIfInBounds_toArray, List.set_cons_zero, List.set_cons_succ])
  refine take_at 15 (some 38) (v := ?_) rfl rfl (by kernel_rfl) (by kernel_rfl) (by kernel_rfl) (fun _ _ _ h => h) ⟨by rfl, ?_⟩ hS ?_
  rotate_left
  · intro wq hSw; go_simp; try rfl
  simp only [Act.put, List.setIfInBounds_toArray, List.set_cons_zero, List.set_cons_succ]
  refine take_at 16 (some 4) (v := ?_) rfl rfl (by kernel_rfl) (by kernel_rfl) (by kernel_rfl) (fun _ _ _ h => h) ⟨by rfl, ?_⟩ hS ?_
  rotate_left
  · intro wq hSw; go_simp; try rfl
  simp only [Act.put, List.setIfInBounds_toArray, List.set_cons_zero, List.set_cons_succ]
  refine wpAnyH_done (by kernel_rfl) ?_ _
  go_wp2_with fail
  go_ret
  exact ⟨rfl, FIN.out⟩
set_option maxHeartbeats 4000000 in
theorem play3_any (U : Nat → Prop) (p r : Nat) (L : List Tx) (o : OpX) (w : World) (h : Duo w U p r L L) (ho : o.Ok) (hk : o.kind = 3) : Calls Try.prog 23 #[bothV p r, .agg o.cs.toArray] w fun e w' => e = .returned (.bool true) ∧ Played w U p r w' := by
  obtain ⟨kind, two, tx, ctr, what, free, more⟩ := o
  obtain ⟨i2, i3, i5, i6⟩ := ho
  simp only at hk i2 i3 i5 i6
  subst hk
  simp only [OpX.cs]
  have NEQ : ¬ U w.heap.size ∧ ¬ U (w.heap.size + 1) := ⟨fun q => by have := h.lt _ q; omega, fun q => by have := h.lt _ q; omega⟩
  have HD := hide h
  clear h
  go_enter Try.func23, Try.ntmps23
  go_upto_region 7 with fail
  refine named (P := Code.wp _ _ _ _) ?_
  intro w1 hw1
  have hb1 : Below w.heap.size w w1 := by rw [hw1]; exact (alloc_below _ _).alloc (by simp) _
  have HBX := hide (show Cells w1 w.heap.size [ptr p, ptr r] from by
    rw [hw1]
    exact (Cells.new w #[ptr p, ptr r] 54).keep (Keep.of_below (S := fun _ => False) (alloc_below _ _)) id)
  have HOX := hide (show Cells w1 (w.heap.size + 1) [.int .i64 3, .bool two, .int .i64 tx, .int .i64 ctr, .int .i64 what, .int .i64 free, .int .i64 more] from by
    rw [hw1]
    have := Cells.new (w.alloc (.cells #[ptr p, ptr r] 54)) #[.int .i64 3, .bool two, .int .i64 tx, .int .i64 ctr, .int .i64 what, .int .i64 free, .int .i64 more] 26
    simpa using this)
  have D1 := hide (HD.out.below hb1)
  have HB1 := hide hb1
  have HNU := hide NEQ
  obtain ⟨n1, hn1⟩ : ∃ n1, n1 = w.heap.size + 1 := ⟨_, rfl⟩
  obtain ⟨n0, hn0⟩ : ∃ n0, n0 = w.heap.size := ⟨_, rfl⟩
  rw [← hn1] at HOX HNU ⊢
  rw [← hn0] at HBX HNU ⊢
  clear hn0 hn1 hw1 hb1 NEQ HD
  refine wp_region_held_drew (S := fun wq => Keep (fun z => U z) w1 wq) (by kernel_rfl) (Keep.refl _ _).drew (fun hS => ?_)
  refine take_at 0 (some 41) (v := ?_) rfl rfl (by kernel_rfl) (by kernel_rfl) (by kernel_rfl) (fun _ _ _ h => h) ⟨by rfl, ?_⟩ hS ?_
  rotate_left
  · intro wq hSw; go_simp; try rfl
  simp only [Act.put, List.setIfInBounds_toArray, List.set_cons_zero, List.set_cons_succ]
  refine take_at 1 (some 42) (v := ?_) rfl rfl (by kernel_rfl) (by kernel_rfl) (by kernel_rfl) (fun _ _ _ h => h) ⟨by rfl, ?_⟩ hS ?_
  rotate_left
  · intro wq hSw; have q := ((HBX.out.keep hSw HNU.out.1).get 0 _ rfl).1; go_simp; try rfl
  simp only [Act.put, List.setIfInBounds_toArray, List.set_cons_zero, List.set_cons_succ]
  refine take_at 2 (some 43) (v := ?_) rfl rfl (by kernel_rfl) (by kernel_rfl) (by kernel_rfl) (fun _ _ _ h => h) ⟨by rfl, ?_⟩ hS ?_
  rotate_left
  · intro wq hSw; go_simp; try rfl
  simp only [Act.put, List.setIfInBounds_toArray, List.set_cons_zero, List.set_cons_succ]
  refine take_at 3 (some 44) (v := ?_) rfl rfl (by kernel_rfl) (by kernel_rfl) (by kernel_rfl) (fun _ _ _ h => h) ⟨by rfl, ?_⟩ hS ?_
  rotate_left
  · intro wq hSw; have q := ((HOX.out.keep hSw HNU.out.2).get 2 _ rfl).1; go_simp; try rfl
  simp only [Act.put, List.setIfInBounds_toArray, List.set_cons_zero, List.set_cons_succ]
  refine take_at 4 (some 45) (v := ?_) rfl rfl (by kernel_rfl) (by kernel_rfl) (by kernel_rfl) (fun _ _ _ h => h) ⟨by rfl, ?_⟩ hS ?_
  rotate_left
  · intro wq hSw; go_simp; try rfl
  simp only [Act.put, List.setIfInBounds_toArray, List.set_cons_zero, List.set_cons_succ]
  refine take_at 5 (some 46) (v := ?_) rfl rfl (by kernel_rfl) (by kernel_rfl) (by kernel_rfl) (fun _ _ _ h => h) ⟨by rfl, ?_⟩ hS ?_
  rotate_left
  · intro wq hSw; have q := ((HOX.out.keep hSw HNU.out.2).get 4 _ rfl).1; go_simp; try rfl
  simp only [Act.put, List.setIfInBounds_toArray, List.set_cons_zero, List.set_cons_succ]
  refine take_at 6 (some 47) (v := ?_) rfl rfl (by kernel_rfl) (by kernel_rfl) (by kernel_rfl) (fun _ _ _ h => h) ⟨by rfl, ?_⟩ hS ?_
  rotate_left
  · intro wq hSw; go_simp; try rfl
  simp only [Act.put, List.setIfInBounds_toArray, List.set_cons_zero, List.set_cons_succ]
  refine take_at 7 (some 48) (v := ?_) rfl rfl (by kernel_rfl) (by kernel_rfl) (by kernel_rfl) (fun _ _ _ h => h) ⟨by rfl, ?_⟩ hS ?_
  rotate_left
  · intro wq hSw; have q := ((HOX.out.keep hSw HNU.out.2).get 3 _ rfl).1; go_simp; try rfl
  simp only [Act.put, List.setIfInBounds_toArray, List.set_cons_zero, List.set_cons_succ]
  refine take_at 10 (some 51) (v := ?_) rfl rfl (by kernel_rfl) (by kernel_rfl) (by kernel_rfl) (fun _ _ _ h => h) ⟨by rfl, ?_⟩ hS ?_
  rotate_left
  · intro wq hSw; go_simp; try rfl
  simp only [Act.put, List.setIfInBounds_toArray, List.set_cons_zero, List.set_cons_succ]
  refine take_at 11 (some 52) (v := ?_) rfl rfl (by kernel_rfl) (by kernel_rfl) (by kernel_rfl) (fun _ _ _ h => h) ⟨by rfl, ?_⟩ hS ?_
  rotate_left
  · intro wq hSw; have q := ((HBX.out.keep hSw HNU.out.1).get 1 _ rfl).1; go_simp; try rfl
  simp only [Act.put, List.setIfInBounds_toArray, List.set_cons_zero, List.set_cons_succ]
  refine take_at 12 (some 53) (v := ?_) rfl rfl (by kernel_rfl) (by kernel_rfl) (by kernel_rfl) (fun _ _ _ h => h) ⟨by rfl, ?_⟩ hS ?_
  rotate_left
  · intro wq hSw; go_simp; try rfl
  simp only [Act.put, List.setIfInBounds_toArray, List.set_cons_zero, List.set_cons_succ]
  refine take_at 13 (some 54) (v := ?_) rfl rfl (by kernel_rfl) (by kernel_rfl) (by kernel_rfl) (fun _ _ _ h => h) ⟨by rfl, ?_⟩ hS ?_
  rotate_left
  · intro wq hSw; have q := ((HOX.out.keep hSw HNU.out.2).get 2 _ rfl).1; go_simp; try rfl
  simp only [Act.put, List.setIfInBounds_toArray, List.set_cons_zero, List.set_cons_succ]
  refine take_at 14 (some 55) (v := ?_) rfl rfl (by kernel_rfl) (by kernel_rfl) (by kernel_rfl) (fun _ _ _ h => h) ⟨by rfl, ?_⟩ hS ?_
  rotate_left
  · intro wq hSw; go_simp; try rfl
  simp only [Act.put, List.setIfInBounds_toArray, List.set_cons_zero, List.set_cons_succ]
  refine take_at 15 (some 56) (v := ?_) rfl rfl (by kernel_rfl) (by kernel_rfl) (by kernel_rfl) (fun _ _ _ h => h) ⟨by rfl, ?_⟩ hS ?_
  rotate_left
  · intro wq hSw; have q := ((HOX.out.keep hSw HNU.out.2).get 4 _ rfl).1; go_simp; try rfl
  simp only [Act.put, List.setIfInBounds_toArray, List.set_cons_zero, List.set_cons_succ]
  refine take_at 16 (some 57) (v := ?_) rfl rfl (by kernel_rfl) (by kernel_rfl) (by kernel_rfl) (fun _ _ _ h => h) ⟨by rfl, ?_⟩ hS ?_
  rotate_left
  · intro wq hSw; go_simp; try rfl
  simp only [Act.put, List.setIfInBounds_toArray, List.set_cons_zero, List.set_cons_succ]
  refine take_at 17 (some 58) (v := ?_) rfl rfl (by kernel_rfl) (by kernel_rfl) (by kernel_rfl) (fun _ _ _ h => h) ⟨by rfl, ?_⟩ hS ?_
  rotate_left
  · intro wq hSw; have q := ((HOX.out.keep hSw HNU.out.2).get 3 _ rfl).1; go_simp; try rfl
  simp only [Act.put, List.setIfInBounds_toArray, List.set_cons_zero, List.set_cons_succ]
  have D2 := hide (D1.out.below (Below.refl _ _).drew)
  have B2 := hide (HB1.out.trans ((Below.refl w1.heap.size w1).drew.mono HB1.out.size))
  have K2 := hide hS
  have K0 := hide hS.size
  clear hS D1 HB1
  generalize w1.drew = x1 at *
  obtain ⟨S1, R1, st1⟩ := D2.out.prog
  have KP := Wrote_any S1 p L tx what ctr x1 R1 i2 i3
  have OK := hide D2.out.ok
  refine wpAnyH_ready (rs := [8]) (by kernel_rfl) (by simp) ?_
  refine AllReadyH.cons rfl (fun K hK => ?_) AllReadyH.nil
  go_simp
  go_wp2_with fail
  refine KP.mono ?_
  rintro e x2 ⟨rfl, o⟩
  obtain ⟨U2, D3, s3⟩ := st1 _ _ o
  have DD := hide D3
  have SS := hide s3
  have K3 := hide (K2.out.trans s3.keep (fun _ _ q => q))
  clear o D3 s3 st1 R1 KP D2 K2
  go_wp2_with fail
  refine hK.out _ _ K3.out (fun hS => ?_)
  clear hK K hS
  (try simp only [Act.put, List.setIfInBounds_toArray, List.set_cons_zero, List.set_cons_succ])
  refine wpAnyH_ready (rs := [9]) (by kernel_rfl) (by simp) ?_
  refine AllReadyH.cons rfl (fun K hK => ?_) AllReadyH.nil
  go_simp
  go_wp2_with fail
  refine (num_eq _ _).mono ?_
  rintro e wz ⟨rfl, rfl⟩
  go_wp2_with fail
  refine hK.out _ _ K3.out (fun hS => ?_)
  clear hK K hS
  (try simp only [Act.put, List.setIfInBounds_toArray, List.set_cons_zero, List.set_cons_succ])
  obtain ⟨S2, R2, st2⟩ := DD.out.ref
  have KR := rWrote_any S2 r L tx what ctr x2 R2 OK.out 
  refine wpAnyH_ready (rs := [18]) (by kernel_rfl) (by simp) ?_
  refine AllReadyH.cons rfl (fun K hK => ?_) AllReadyH.nil
  go_simp
  go_wp2_with fail
  refine KR.mono ?_
  rintro e x3 ⟨rfl, o⟩
  obtain ⟨U3, D4, s4⟩ := st2 _ _ o
  have FIN := hide (Played.of B2.out D4 (SS.out.trans s4))
  have K4 := hide (K3.out.trans s4.keep (fun j hj q => SS.out.sub j (by have := hj; have := K0.out; omega) q))
  clear o D4 s4 st2 R2 KR DD SS K3
  go_wp2_with fail
  refine hK.out _ _ K4.out (fun hS => ?_)
  clear hK K
  (try simp only [Act.put, List.setIfInBounds_toArray, List.set_cons_zero, List.set_cons_succ])
  refine take_at 19 (some 60) (v := ?_) rfl rfl (by kernel_rfl) (by kernel_rfl) (by kernel_rfl) (fun _ _ _ h => h) ⟨by rfl, ?_⟩ hS ?_
  rotate_left
  · intro wq hSw; go_simp; try rfl
  simp only [Act.put, List.setIfInBounds_toArray, List.set_cons_zero, List.set_cons_succ]
  refine take_at 20 (some 4) (v := ?_) rfl rfl (by kernel_rfl) (by kernel_rfl) (by kernel_rfl) (fun _ _ _ h => h) ⟨by rfl, ?_⟩ hS ?_
  rotate_left
  · intro wq hSw; go_simp; try rfl
  simp only [Act.put, List.setIfInBounds_toArray, List.set_cons_zero, List.set_cons_succ]
  refine wpAnyH_done (by kernel_rfl) ?_ _
  go_wp2_with fail
  go_ret
  exact ⟨rfl, FIN.out⟩
set_option maxHeartbeats 4000000 in
theorem play4_any (U : Nat → Prop) (p r : Nat) (L : List Tx) (o : OpX) (w : World) (h : Duo w U p r L L) (ho : o.Ok) (hk : o.kind = 4) : Calls Try.prog 23 #[bothV p r, .agg o.cs.toArray] w fun e w' => e = .returned (.bool true) ∧ Played w U p r w' := by
  obtain ⟨kind, two, tx, ctr, what, free, more⟩ := o
  obtain ⟨i2, i3, i5, i6⟩ := ho
  simp only at hk i2 i3 i5 i6
  subst hk
  simp only [OpX.cs]
  have NEQ : ¬ U w.heap.size ∧ ¬ U (w.heap.size + 1) := ⟨fun q => by have := h.lt _ q; omega, fun q => by have := h.lt _ q; omega⟩
  have HD := hide h
  clear h
  go_enter Try.func23, Try.ntmps23
  go_upto_region 9 with fail
  refine named (P := Code.wp _ _ _ _) ?_
  intro w1 hw1
  have hb1 : Below w.heap.size w w1 := by rw [hw1]; exact (alloc_below _ _).alloc (by simp) _
  have HBX := hide (show Cells w1 w.heap.size [ptr p, ptr r] from by
    rw [hw1]
    exact (Cells.new w #[ptr p, ptr r] 54).keep (Keep.of_below (S := fun _ => False) (alloc_below _ _)) id)
  have HOX := hide (show Cells w1 (w.heap.size + 1) [.int .i64 4, .bool two, .int .i64 tx, .int .i64 ctr, .int .i64 what, .int .i64 free, .int .i64 more] from by
    rw [hw1]
    have := Cells.new (w.alloc (.cells #[ptr p, ptr r] 54)) #[.int .i64 4, .bool two, .int .i64 tx, .int .i64 ctr, .int .i64 what, .int .i64 free, .int .i64 more] 26
    simpa using this)
  have D1 := hide (HD.out.below hb1)
  have HB1 := hide hb1
  have HNU := hide NEQ
  obtain ⟨n1, hn1⟩ : ∃ n1, n1 = w.heap.size + 1 := ⟨_, rfl⟩
  obtain ⟨n0, hn0⟩ : ∃ n0, n0 = w.heap.size := ⟨_, rfl⟩
  rw [← hn1] at HOX HNU ⊢
  rw [← hn0] at HBX HNU ⊢
  clear hn0 hn1 hw1 hb1 NEQ HD
  refine wp_region_held_drew (S := fun wq => Keep (fun z => U z) w1 wq) (by kernel_rfl) (Keep.refl _ _).drew (fun hS => ?_)
  refine take_at 0 (some 63) (v := ?_) rfl rfl (by kernel_rfl) (by kernel_rfl) (by kernel_rfl) (fun _ _ _ h => h) ⟨by rfl, ?_⟩ hS ?_
  rotate_left
  · intro wq hSw; go_simp; try rfl
  simp only [Act.put, List.setIfInBounds_toArray, List.set_cons_zero, List.set_cons_succ]
  refine take_at 1 (some 64) (v := ?_) rfl rfl (by kernel_rfl) (by kernel_rfl) (by kernel_rfl) (fun _ _ _ h => h) ⟨by rfl, ?_⟩ hS ?_
  rotate_left
  · intro wq hSw; have q := ((HBX.out.keep hSw HNU.out.1).get 0 _ rfl).1; go_simp; try rfl
  simp only [Act.put, List.setIfInBounds_toArray, List.set_cons_zero, List.set_cons_succ]
  refine take_at 2 (some 65) (v := ?_) rfl rfl (by kernel_rfl) (by kernel_rfl) (by kernel_rfl) (fun _ _ _ h => h) ⟨by rfl, ?_⟩ hS ?_
  rotate_left
  · intro wq hSw; go_simp; try rfl
  simp only [Act.put, List.setIfInBounds_toArray, List.set_cons_zero, List.set_cons_succ]
  refine take_at 3 (some 66) (v := ?_) rfl rfl (by kernel_rfl) (by kernel_rfl) (by kernel_rfl) (fun _ _ _ h => h) ⟨by rfl, ?_⟩ hS ?_
  rotate_left
  · intro wq hSw; have q := ((HOX.out.keep hSw HNU.out.2).get 5 _ rfl).1; go_simp; try rfl
  simp only [Act.put, List.setIfInBounds_toArray, List.set_cons_zero, List.set_cons_succ]
  refine take_at 4 (some 67) (v := ?_) rfl rfl (by kernel_rfl) (by kernel_rfl) (by kernel_rfl) (fun _ _ _ h => h) ⟨by rfl, ?_⟩ hS ?_
  rotate_left
  · intro wq hSw; go_simp; try rfl
  simp only [Act.put, List.setIfInBounds_toArray, List.set_cons_zero, List.set_cons_succ]
  refine take_at 5 (some 68) (v := ?_) rfl rfl (by kernel_rfl) (by kernel_rfl) (by kernel_rfl) (fun _ _ _ h => h) ⟨by rfl, ?_⟩ hS ?_
  rotate_left
  · intro wq hSw; have q := ((HOX.out.keep hSw HNU.out.2).get 2 _ rfl).1; go_simp; try rfl
  simp only [Act.put, List.setIfInBounds_toArray, List.set_cons_zero, List.set_cons_succ]
  refine take_at 6 (some 69) (v := ?_) rfl rfl (by kernel_rfl) (by kernel_rfl) (by kernel_rfl) (fun _ _ _ h => h) ⟨by rfl, ?_⟩ hS ?_
  rotate_left
  · intro wq hSw; go_simp; try rfl
  simp only [Act.put, List.setIfInBounds_toArray, List.set_cons_zero, List.set_cons_succ]
  refine take_at 7 (some 70) (v := ?_) rfl rfl (by kernel_rfl) (by kernel_rfl) (by kernel_rfl) (fun _ _ _ h => h) ⟨by rfl, ?_⟩ hS ?_
  rotate_left
  · intro wq hSw; have q := ((HOX.out.keep hSw HNU.out.2).get 6 _ rfl).1; go_simp; try rfl
  simp only [Act.put, List.setIfInBounds_toArray, List.set_cons_zero, List.set_cons_succ]
  refine take_at 10 (some 73) (v := ?_) rfl rfl (by kernel_rfl) (by kernel_rfl) (by kernel_rfl) (fun _ _ _ h => h) ⟨by rfl, ?_⟩ hS ?_
  rotate_left
  · intro wq hSw; go_simp; try rfl
  simp only [Act.put, List.setIfInBounds_toArray, List.set_cons_zero, List.set_cons_succ]
  refine take_at 11 (some 74) (v := ?_) rfl rfl (by kernel_rfl) (by kernel_rfl) (by kernel_rfl) (fun _ _ _ h => h) ⟨by rfl, ?_⟩ hS ?_
  rotate_left
  · intro wq hSw; have q := ((HBX.out.keep hSw HNU.out.1).get 1 _ rfl).1; go_simp; try rfl
  simp only [Act.put, List.setIfInBounds_toArray, List.set_cons_zero, List.set_cons_succ]
  refine take_at 12 (some 75) (v := ?_) rfl rfl (by kernel_rfl) (by kernel_rfl) (by kernel_rfl) (fun _ _ _ h => h) ⟨by rfl, ?_⟩ hS ?_
  rotate_left
  · intro wq hSw; go_simp; try rfl
  simp only [Act.put, List.setIfInBounds_toArray, List.set_cons_zero, List.set_cons_succ]
  refine take_at 13 (some 76) (v := ?_) rfl rfl (by kernel_rfl) (by kernel_rfl) (by kernel_rfl) (fun _ _ _ h => h) ⟨by rfl, ?_⟩ hS ?_
  rotate_left
  · intro wq hSw; have q := ((HOX.out.keep hSw HNU.out.2).get 5 _ rfl).1; go_simp; try rfl
  simp only [Act.put, List.setIfInBounds_toArray, List.set_cons_zero, List.set_cons_succ]
  refine take_at 14 (some 77) (v := ?_) rfl rfl (by kernel_rfl) (by kernel_rfl) (by kernel_rfl) (fun _ _ _ h => h) ⟨by rfl, ?_⟩ hS ?_
  rotate_left
  · intro wq hSw; go_simp; try rfl
  simp only [Act.put, List.setIfInBounds_toArray, List.set_cons_zero, List.set_cons_succ]
  refine take_at 15 (some 78) (v := ?_) rfl rfl (by kernel_rfl) (by kernel_rfl) (by kernel_rfl) (fun _ _ _ h => h) ⟨by rfl, ?_⟩ hS ?_
  rotate_left
  · intro wq hSw; have q := ((HOX.out.keep hSw HNU.out.2).get 2 _ rfl).1; go_simp; try rfl
  simp only [Act.put, List.setIfInBounds_toArray, List.set_cons_zero, List.set_cons_succ]
  refine take_at 16 (some 79) (v := ?_) rfl rfl (by kernel_rfl) (by kernel_rfl) (by kernel_rfl) (fun _ _ _ h => h) ⟨by rfl, ?_⟩ hS ?_
  rotate_left
  · intro wq hSw; go_simp; try rfl
  simp only [Act.put, List.setIfInBounds_toArray, List.set_cons_zero, List.set_cons_succ]
  refine take_at 17 (some 80) (v := ?_) rfl rfl (by kernel_rfl) (by kernel_rfl) (by kernel_rfl) (fun _ _ _ h => h) ⟨by rfl, ?_⟩ hS ?_
  rotate_left
  · intro wq hSw; have q := ((HOX.out.keep hSw HNU.out.2).get 6 _ rfl).1; go_simp; try rfl
  simp only [Act.put, List.setIfInBounds_toArray, List.set_cons_zero, List.set_cons_succ]
  have D2 := hide (D1.out.below (Below.refl _ _).drew)
  have B2 := hide (HB1.out.trans ((Below.refl w1.heap.size w1).drew.mono HB1.out.size))
  have K2 := hide hS
  clear hS D1 HB1
  generalize w1.drew = x1 at *
  obtain ⟨S1, R1, st1⟩ := D2.out.prog
  have KP := May_any S1 p L free tx more x1 R1 i5 i2 i6
  have OK := hide D2.out.ok
  refine wpAnyH_ready (rs := [8]) (by kernel_rfl) (by simp) ?_
  refine AllReadyH.cons rfl (fun K hK => ?_) AllReadyH.nil
  go_simp
  go_wp2_with fail
  refine KP.mono ?_
  rintro e x2 ⟨rfl, o⟩
  have DD := hide (D2.out.below o)
  have SS := hide (Step.below (U := U) o)
  have K3 := hide (K2.out.then_below o)
  clear o st1 R1 KP D2 K2
  go_wp2_with fail
  refine hK.out _ _ K3.out (fun hS => ?_)
  clear hK K hS
  (try simp only [Act.put, List.setIfInBounds_toArray, List.set_cons_zero, List.set_cons_succ])
  refine wpAnyH_ready (rs := [9]) (by kernel_rfl) (by simp) ?_
  refine AllReadyH.cons rfl (fun K hK => ?_) AllReadyH.nil
  go_simp
  go_wp2_with fail
  refine (num_eq _ _).mono ?_
  rintro e wz ⟨rfl, rfl⟩
  go_wp2_with fail
  refine hK.out _ _ K3.out (fun hS => ?_)
  clear hK K hS
  (try simp only [Act.put, List.setIfInBounds_toArray, List.set_cons_zero, List.set_cons_succ])
  obtain ⟨S2, R2, st2⟩ := DD.out.ref
  have KR := rMay_any S2 r L free tx more x2 R2 OK.out i5 i2 i6
  refine wpAnyH_ready (rs := [18]) (by kernel_rfl) (by simp) ?_
  refine AllReadyH.cons rfl (fun K hK => ?_) AllReadyH.nil
  go_simp
  go_wp2_with fail
  refine KR.mono ?_
  rintro e x3 ⟨rfl, o⟩
  have FIN := hide (Played.of B2.out (DD.out.below o) (SS.out.trans (Step.below o)))
  have K4 := hide (K3.out.then_below o)
  clear o st2 R2 KR DD SS K3
  go_wp2_with fail
  refine hK.out _ _ K4.out (fun hS => ?_)
  clear hK K
  (try simp only [Act.put, List.setIfInBounds_toArray, List.set_cons_zero, List.set_cons_succ])
  refine take_at 19 (some 82) (v := ?_) rfl rfl (by kernel_rfl) (by kernel_rfl) (by kernel_rfl) (fun _ _ _ h => h) ⟨by rfl, ?_⟩ hS ?_
  rotate_left
  · intro wq hSw; go_simp; try rfl
  simp only [Act.put, List.setIfInBounds_toArray, List.set_cons_zero, List.set_cons_succ]
  refine take_at 20 (some 4) (v := ?_) rfl rfl (by kernel_rfl) (by kernel_rfl) (by kernel_rfl) (fun _ _ _ h => h) ⟨by rfl, ?_⟩ hS ?_
  rotate_left
  · intro wq hSw; go_simp; try rfl
  simp only [Act.put, List.setIfInBounds_toArray, List.set_cons_zero, List.set_cons_succ]
  refine wpAnyH_done (by kernel_rfl) ?_ _
  go_wp2_with fail
  go_ret
  exact ⟨rfl, FIN.out⟩
set_option maxHeartbeats 4000000 in
theorem play5_any (U : Nat → Prop) (p r : Nat) (L : List Tx) (o : OpX) (w : World) (h : Duo w U p r L L) (ho : o.Ok) (hk : o.kind = 5) : Calls Try.prog 23 #[bothV p r, .agg o.cs.toArray] w fun e w' => e = .returned (.bool true) ∧ Played w U p r w' := by
  obtain ⟨kind, two, tx, ctr, what, free, more⟩ := o
  obtain ⟨i2, i3, i5, i6⟩ := ho
  simp only at hk i2 i3 i5 i6
  subst hk
  simp only [OpX.cs]
  have NEQ : ¬ U w.heap.size ∧ ¬ U (w.heap.size + 1) := ⟨fun q => by have := h.lt _ q; omega, fun q => by have := h.lt _ q; omega⟩
  have HD := hide h
  clear h
  go_enter Try.func23, Try.ntmps23
  go_upto_region 11 with fail
  refine named (P := Code.wp _ _ _ _) ?_
  intro w1 hw1
  have hb1 : Below w.heap.size w w1 := by rw [hw1]; exact (alloc_below _ _).alloc (by simp) _
  have HBX := hide (show Cells w1 w.heap.size [ptr p, ptr r] from by
    rw [hw1]
    exact (Cells.new w #[ptr p, ptr r] 54).keep (Keep.of_below (S := fun _ => False) (alloc_below _ _)) id)
  have HOX := hide (show Cells w1 (w.heap.size + 1) [.int .i64 5, .bool two, .int .i64 tx, .int .i64 ctr, .int .i64 what, .int .i64 free, .int .i64 more] from by
    rw [hw1]
    have := Cells.new (w.alloc (.cells #[ptr p, ptr r] 54)) #[.int .i64 5, .bool two, .int .i64 tx, .int .i64 ctr, .int .i64 what, .int .i64 free, .int .i64 more] 26
    simpa using this)
  have D1 := hide (HD.out.below hb1)
  have HB1 := hide hb1
  have HNU := hide NEQ
  obtain ⟨n1, hn1⟩ : ∃ n1, n1 = w.heap.size + 1 := ⟨_, rfl⟩
  obtain ⟨n0, hn0⟩ : ∃ n0, n0 = w.heap.size := ⟨_, rfl⟩
  rw [← hn1] at HOX HNU ⊢
  rw [← hn0] at HBX HNU ⊢
  clear hn0 hn1 hw1 hb1 NEQ HD
  refine wp_region_held_drew (S := fun wq => Keep (fun z => U z) w1 wq) (by kernel_rfl) (Keep.refl _ _).drew (fun hS => ?_)
  refine take_at 0 (some 85) (v := ?_) rfl rfl (by kernel_rfl) (by kernel_rfl) (by kernel_rfl) (fun _ _ _ h => h) ⟨by rfl, ?_⟩ hS ?_
  rotate_left
  · intro wq hSw; go_simp; try rfl
  simp only [Act.put, List.setIfInBounds_toArray, List.set_cons_zero, List.set_cons_succ]
  refine take_at 1 (some 86) (v := ?_) rfl rfl (by kernel_rfl) (by kernel_rfl) (by kernel_rfl) (fun _ _ _ h => h) ⟨by rfl, ?_⟩ hS ?_
  rotate_left
  · intro wq hSw; have q := ((HBX.out.keep hSw HNU.out.1).get 0 _ rfl).1; go_simp; try rfl
  simp only [Act.put, List.setIfInBounds_toArray, List.set_cons_zero, List.set_cons_succ]
  refine take_at 3 (some 88) (v := ?_) rfl rfl (by kernel_rfl) (by kernel_rfl) (by kernel_rfl) (fun _ _ _ h => h) ⟨by rfl, ?_⟩ hS ?_
  rotate_left
  · intro wq hSw; go_simp; try rfl
  simp only [Act.put, List.setIfInBounds_toArray, List.set_cons_zero, List.set_cons_succ]
  refine take_at 4 (some 89) (v := ?_) rfl rfl (by kernel_rfl) (by kernel_rfl) (by kernel_rfl) (fun _ _ _ h => h) ⟨by rfl, ?_⟩ hS ?_
  rotate_left
  · intro wq hSw; have q := ((HBX.out.keep hSw HNU.out.1).get 1 _ rfl).1; go_simp; try rfl
  simp only [Act.put, List.setIfInBounds_toArray, List.set_cons_zero, List.set_cons_succ]
  have D2 := hide (D1.out.below (Below.refl _ _).drew)
  have B2 := hide (HB1.out.trans ((Below.refl w1.heap.size w1).drew.mono HB1.out.size))
  have K2 := hide hS
  clear hS D1 HB1
  generalize w1.drew = x1 at *
  have OK := hide D2.out.ok
  have S0 := hide (Step.refl U x1)
  obtain ⟨S1, R1, st1⟩ := D2.out.prog
  have KP := Promised_any S1 p L x1 R1
  refine wpAnyH_ready (rs := [2]) (by kernel_rfl) (by simp) ?_
  refine AllReadyH.cons rfl (fun K hK => ?_) AllReadyH.nil
  go_simp
  go_wp2_with fail
  refine KP.mono ?_
  rintro e x2 ⟨rfl, o⟩
  have D3 := hide (D2.out.below o)
  have S3s := hide (S0.out.trans (Step.below o))
  have K3 := hide (K2.out.then_below o)
  clear o st1 R1 KP D2 K2 S0
  go_wp2_with fail
  refine hK.out _ _ K3.out (fun hS => ?_)
  clear hK K
  (try simp only [Act.put, List.setIfInBounds_toArray, List.set_cons_zero, List.set_cons_succ])
  clear hS
  obtain ⟨S1, R1, st1⟩ := D3.out.ref
  have KP := rPromised_any S1 r L x2 R1 OK.out
  refine wpAnyH_ready (rs := [5]) (by kernel_rfl) (by simp) ?_
  refine AllReadyH.cons rfl (fun K hK => ?_) AllReadyH.nil
  go_simp
  go_wp2_with fail
  refine KP.mono ?_
  rintro e x3 ⟨rfl, o⟩
  have D4 := hide (D3.out.below o)
  have S4s := hide (S3s.out.trans (Step.below o))
  have K4 := hide (K3.out.then_below o)
  clear o st1 R1 KP D3 K3 S3s
  go_wp2_with fail
  refine hK.out _ _ K4.out (fun hS => ?_)
  clear hK K
  (try simp only [Act.put, List.setIfInBounds_toArray, List.set_cons_zero, List.set_cons_succ])
  refine take_at 6 (some 91) (v := ?_) rfl rfl (by kernel_rfl) (by kernel_rfl) (by kernel_rfl) (fun _ _ _ h => h) ⟨by rfl, ?_⟩ hS ?_
  rotate_left
  · intro wq hSw; go_simp; try rfl
  simp only [Act.put, List.setIfInBounds_toArray, List.set_cons_zero, List.set_cons_succ]
  refine take_at 7 (some 92) (v := ?_) rfl rfl (by kernel_rfl) (by kernel_rfl) (by kernel_rfl) (fun _ _ _ h => h) ⟨by rfl, ?_⟩ hS ?_
  rotate_left
  · intro wq hSw; go_simp; try rfl
  simp only [Act.put, List.setIfInBounds_toArray, List.set_cons_zero, List.set_cons_succ]
  refine take_at 8 (some 93) (v := ?_) rfl rfl (by kernel_rfl) (by kernel_rfl) (by kernel_rfl) (fun _ _ _ h => h) ⟨by rfl, ?_⟩ hS ?_
  rotate_left
  · intro wq hSw; go_simp; try rfl
  simp only [Act.put, List.setIfInBounds_toArray, List.set_cons_zero, List.set_cons_succ]
  refine take_at 9 (some 94) (v := ?_) rfl rfl (by kernel_rfl) (by kernel_rfl) (by kernel_rfl) (fun _ _ _ h => h) ⟨by rfl, ?_⟩ hS ?_
  rotate_left
  · intro wq hSw; have q := ((HBX.out.keep hSw HNU.out.1).get 0 _ rfl).1; go_simp; try rfl
  simp only [Act.put, List.setIfInBounds_toArray, List.set_cons_zero, List.set_cons_succ]
  refine take_at 10 (some 95) (v := ?_) rfl rfl (by kernel_rfl) (by kernel_rfl) (by kernel_rfl) (fun _ _ _ h => h) ⟨by rfl, ?_⟩ hS ?_
  rotate_left
  · intro wq hSw; go_simp; try rfl
  simp only [Act.put, List.setIfInBounds_toArray, List.set_cons_zero, List.set_cons_succ]
  refine take_at 11 (some 96) (v := ?_) rfl rfl (by kernel_rfl) (by kernel_rfl) (by kernel_rfl) (fun _ _ _ h => h) ⟨by rfl, ?_⟩ hS ?_
  rotate_left
  · intro wq hSw; have q := ((HOX.out.keep hSw HNU.out.2).get 2 _ rfl).1; go_simp; try rfl
  simp only [Act.put, List.setIfInBounds_toArray, List.set_cons_zero, List.set_cons_succ]
  refine take_at 13 (some 98) (v := ?_) rfl rfl (by kernel_rfl) (by kernel_rfl) (by kernel_rfl) (fun _ _ _ h => h) ⟨by rfl, ?_⟩ hS ?_
  rotate_left
  · intro wq hSw; go_simp; try rfl
  simp only [Act.put, List.setIfInBounds_toArray, List.set_cons_zero, List.set_cons_succ]
  refine take_at 14 (some 99) (v := ?_) rfl rfl (by kernel_rfl) (by kernel_rfl) (by kernel_rfl) (fun _ _ _ h => h) ⟨by rfl, ?_⟩ hS ?_
  rotate_left
  · intro wq hSw; have q := ((HBX.out.keep hSw HNU.out.1).get 1 _ rfl).1; go_simp; try rfl
  simp only [Act.put, List.setIfInBounds_toArray, List.set_cons_zero, List.set_cons_succ]
  refine take_at 15 (some 100) (v := ?_) rfl rfl (by kernel_rfl) (by kernel_rfl) (by kernel_rfl) (fun _ _ _ h => h) ⟨by rfl, ?_⟩ hS ?_
  rotate_left
  · intro wq hSw; go_simp; try rfl
  simp only [Act.put, List.setIfInBounds_toArray, List.set_cons_zero, List.set_cons_succ]
  refine take_at 16 (some 101) (v := ?_) rfl rfl (by kernel_rfl) (by kernel_rfl) (by kernel_rfl) (fun _ _ _ h => h) ⟨by rfl, ?_⟩ hS ?_
  rotate_left
  · intro wq hSw; have q := ((HOX.out.keep hSw HNU.out.2).get 2 _ rfl).1; go_simp; try rfl
  simp only [Act.put, List.setIfInBounds_toArray, List.set_cons_zero, List.set_cons_succ]
  clear hS
  obtain ⟨S1, R1, st1⟩ := D4.out.prog
  have KP := Of_any S1 p L tx x3 R1 i2
  refine wpAnyH_ready (rs := [12]) (by kernel_rfl) (by simp) ?_
  refine AllReadyH.cons rfl (fun K hK => ?_) AllReadyH.nil
  go_simp
  go_wp2_with fail
  refine KP.mono ?_
  rintro e x4 ⟨rfl, o⟩
  have D5 := hide (D4.out.below o)
  have S5s := hide (S4s.out.trans (Step.below o))
  have K5 := hide (K4.out.then_below o)
  clear o st1 R1 KP D4 K4 S4s
  go_wp2_with fail
  refine hK.out _ _ K5.out (fun hS => ?_)
  clear hK K
  (try simp only [Act.put, List.setIfInBounds_toArray, List.set_cons_zero, List.set_cons_succ])
  clear hS
  obtain ⟨S1, R1, st1⟩ := D5.out.ref
  have KP := rOf_any S1 r L tx x4 R1 OK.out
  refine wpAnyH_ready (rs := [17]) (by kernel_rfl) (by simp) ?_
  refine AllReadyH.cons rfl (fun K hK => ?_) AllReadyH.nil
  go_simp
  go_wp2_with fail
  refine KP.mono ?_
  rintro e x5 ⟨rfl, o⟩
  have D6 := hide (D5.out.below o)
  have S6s := hide (S5s.out.trans (Step.below o))
  have K6 := hide (K5.out.then_below o)
  clear o st1 R1 KP D5 K5 S5s
  go_wp2_with fail
  refine hK.out _ _ K6.out (fun hS => ?_)
  clear hK K
  (try simp only [Act.put, List.setIfInBounds_toArray, List.set_cons_zero, List.set_cons_succ])
  have FIN := hide (Played.of B2.out D6.out S6s.out)
  refine take_at 18 (some 103) (v := ?_) rfl rfl (by kernel_rfl) (by kernel_rfl) (by kernel_rfl) (fun _ _ _ h => h) ⟨by rfl, ?_⟩ hS ?_
  rotate_left
  · intro wq hSw; go_simp; try rfl
  simp only [Act.put, List.setIfInBounds_toArray, List.set_cons_zero, List.set_cons_succ]
  refine take_at 19 (some 104) (v := ?_) rfl rfl (by kernel_rfl) (by kernel_rfl) (by kernel_rfl) (fun _ _ _ h => h) ⟨by rfl, ?_⟩ hS ?_
  rotate_left
  · intro wq hSw; go_simp; try rfl
  simp only [Act.put, List.setIfInBounds_toArray, List.set_cons_zero, List.set_cons_succ]
  refine take_at 20 (some 4) (v := ?_) rfl rfl (by kernel_rfl) (by kernel_rfl) (by kernel_rfl) (fun _ _ _ h => h) ⟨by rfl, ?_⟩ hS ?_
  rotate_left
  · intro wq hSw; go_simp; try rfl
  simp only [Act.put, List.setIfInBounds_toArray, List.set_cons_zero, List.set_cons_succ]
  refine wpAnyH_done (by kernel_rfl) ?_ _
  go_wp2_with fail
  go_ret
  exact ⟨rfl, FIN.out⟩
set_option maxHeartbeats 1000000 in
theorem plays_any (U : Nat → Prop) (p r : Nat) (L : List Tx) (o : OpX) (w : World) (h : Duo w U p r L L) (ho : o.Ok) : Calls Try.prog 23 #[bothV p r, .agg o.cs.toArray] w fun e w' => e = .returned (.bool true) ∧ Played w U p r w' := by
  by_cases e1 : o.kind = 1
  · exact play1_any U p r L o w h ho e1
  by_cases e2 : o.kind = 2
  · exact play2_any U p r L o w h ho e2
  by_cases e3 : o.kind = 3
  · exact play3_any U p r L o w h ho e3
  by_cases e4 : o.kind = 4
  · exact play4_any U p r L o w h ho e4
  by_cases e5 : o.kind = 5
  · exact play5_any U p r L o w h ho e5
  obtain ⟨kind, two, tx, ctr, what, free, more⟩ := o
  simp only at e1 e2 e3 e4 e5
  simp only [OpX.cs]
  have q1 : (kind == 1) = false := by simpa using e1
  have q2 : (kind == 2) = false := by simpa using e2
  have q3 : (kind == 3) = false := by simpa using e3
  have q4 : (kind == 4) = false := by simpa using e4
  have q5 : (kind == 5) = false := by simpa using e5
  have HD := hide h
  clear h ho e1 e2 e3 e4 e5
  go_enter Try.func23, Try.ntmps23
  go_wp2
  go_ret
  exact ⟨rfl, Played.of ((alloc_below _ _).alloc (by simp) _) (HD.out.below ((alloc_below _ _).alloc (by simp) _)) (Step.refl _ _)⟩
end Go.Proofs.Ytadppakflbilcaa
