import Derived.Test.YtblngphjoafidaaGreatAn5
namespace Go.Proofs.YtblngphjoafidaaGreat
open Go.RowKit Go.QK Go.Maps Go.QM Go.QT
set_option maxRecDepth 100000
/-! found: what is known, in new memory. -/
structure FoundOut (w w' : World) (vL vD : Value) (F : FoundM) : Prop where
  live : LRow w' w.heap.size vL F.live
  dirty : DRow w' w.heap.size vD F.dirty
  be : Below w.heap.size w w'
abbrev fdA (vL vD : Value) (F : FoundM) : Array Value := #[vL, vD, .int .i64 F.fr, .int .i64 F.next]
theorem set4 {w : World} {b : Nat} {a0 a1 a2 a3 : Value} (h : Cells w b [a0, a1, a2, a3]) (v0 v1 v2 v3 : Value) : Cells ((((w.setCell ⟨b, 0, none⟩ v0).setCell ⟨b, 1, none⟩ v1).setCell ⟨b, 2, none⟩ v2).setCell ⟨b, 3, none⟩ v3) b [v0, v1, v2, v3] ∧ Keep (fun z => z = b) w ((((w.setCell ⟨b, 0, none⟩ v0).setCell ⟨b, 1, none⟩ v1).setCell ⟨b, 2, none⟩ v2).setCell ⟨b, 3, none⟩ v3) :=
  ⟨(((h.stored (j := 0) (by simp) v0).stored (j := 1) (by simp) v1).stored (j := 2) (by simp) v2).stored (j := 3) (by simp) v3,
   ((((Keep.refl (fun z => z = b) w).setCell (g := b) (j := 0) (fun _ => rfl) v0).setCell (g := b) (j := 1) (fun _ => rfl) v1).setCell (g := b) (j := 2) (fun _ => rfl) v2).setCell (g := b) (j := 3) (fun _ => rfl) v3⟩
set_option maxHeartbeats 8000000 in
theorem found_any (b tb m : Nat) (p : PassM) (w : World) (h : PP w b tb m p) : Calls Tryz.prog 18 #[ptr b] w fun e w' => ∃ vL vD, e = .returned (.agg (fdA vL vD p.found)) ∧ FoundOut w w' vL vD p.found := by
  have hP := hide h
  clear h
  go_enter Tryz.func18, Tryz.ntmps18
  go_upto_region 1 with fail
  refine named (P := Code.wp _ _ _ _) ?_
  intro w1 hw1
  obtain ⟨rb, hrb⟩ : ∃ xb, xb = w.heap.size := ⟨_, rfl⟩
  have bb := alloc_below w (.cells #[.slice none 0 0, .slice none 0 0, .int .i64 0, .int .i64 0] 34)
  rw [← hw1] at bb
  have X1 := hide (show Cells w1 rb [.slice none 0 0, .slice none 0 0, .int .i64 0, .int .i64 0] by rw [hw1, hrb]; exact Cells.new _ _ _)
  have P1 := hide (hP.out.below bb)
  have B1 := hide bb
  have HB := hide hrb
  have NE := hide (show rb ≠ b ∧ rb ≠ tb ∧ rb ≠ m by have := hP.out.ps.1; have := hP.out.pt.lt; omega)
  rw [← hrb]
  clear hw1 hrb bb hP
  refine wp_region_held_drew (S := fun wq => Keep (fun z => z = rb) w1 wq) (by kernel_rfl) (Keep.refl _ _).drew (fun hS => ?_)
  have KD := hide (show Below w1.heap.size w1 w1.drew from (Below.refl _ _).drew)
  have S1 := hide (show ∀ wq, Keep (fun z => z = rb) w1 wq → PP wq b tb m p from fun wq hk => P1.out.keep hk (fun q => NE.out.1 q.symm) (fun q => NE.out.2.1 q.symm) (fun q => NE.out.2.2 q.symm))
  generalize w1.drew = y0 at *
  refine take_at 0 (some 3) (v := ?_) rfl rfl (by kernel_rfl) (by kernel_rfl) (by kernel_rfl) (fun _ _ _ h => h) ⟨by rfl, ?_⟩ hS ?_
  rotate_left
  · intro wq hSw; go_simp; try rfl
  simp only [Act.put, List.setIfInBounds_toArray, List.set_cons_zero, List.set_cons_succ]
  refine take_at 1 (some 4) (v := ?_) rfl rfl (by kernel_rfl) (by kernel_rfl) (by kernel_rfl) (fun _ _ _ h => h) ⟨by rfl, ?_⟩ hS ?_
  rotate_left
  · intro wq hSw; go_simp; try rfl
  simp only [Act.put, List.setIfInBounds_toArray, List.set_cons_zero, List.set_cons_succ]
  refine take_at 2 (some 5) (v := ?_) rfl rfl (by kernel_rfl) (by kernel_rfl) (by kernel_rfl) (fun _ _ _ h => h) ⟨by rfl, ?_⟩ hS ?_
  rotate_left
  · intro wq hSw; go_simp; try rfl
  simp only [Act.put, List.setIfInBounds_toArray, List.set_cons_zero, List.set_cons_succ]
  refine take_at 3 (some 6) (v := ?_) rfl rfl (by kernel_rfl) (by kernel_rfl) (by kernel_rfl) (fun _ _ _ h => h) ⟨by rfl, ?_⟩ hS ?_
  rotate_left
  · intro wq hSw; have q := (Cells.get (S1.out wq hSw).ps 0 (ptr tb) rfl).1; go_simp; try rfl
  simp only [Act.put, List.setIfInBounds_toArray, List.set_cons_zero, List.set_cons_succ]
  refine take_at 5 (some 8) (v := ?_) rfl rfl (by kernel_rfl) (by kernel_rfl) (by kernel_rfl) (fun _ _ _ h => h) ⟨by rfl, ?_⟩ hS ?_
  rotate_left
  · intro wq hSw; go_simp; try rfl
  simp only [Act.put, List.setIfInBounds_toArray, List.set_cons_zero, List.set_cons_succ]
  refine take_at 6 (some 9) (v := ?_) rfl rfl (by kernel_rfl) (by kernel_rfl) (by kernel_rfl) (fun _ _ _ h => h) ⟨by rfl, ?_⟩ hS ?_
  rotate_left
  · intro wq hSw; go_simp; try rfl
  simp only [Act.put, List.setIfInBounds_toArray, List.set_cons_zero, List.set_cons_succ]
  refine take_at 7 (some 10) (v := ?_) rfl rfl (by kernel_rfl) (by kernel_rfl) (by kernel_rfl) (fun _ _ _ h => h) ⟨by rfl, ?_⟩ hS ?_
  rotate_left
  · intro wq hSw; go_simp; try rfl
  simp only [Act.put, List.setIfInBounds_toArray, List.set_cons_zero, List.set_cons_succ]
  refine take_at 9 (some 12) (v := ?_) rfl rfl (by kernel_rfl) (by kernel_rfl) (by kernel_rfl) (fun _ _ _ h => h) ⟨by rfl, ?_⟩ hS ?_
  rotate_left
  · intro wq hSw; go_simp; try rfl
  simp only [Act.put, List.setIfInBounds_toArray, List.set_cons_zero, List.set_cons_succ]
  refine take_at 10 (some 13) (v := ?_) rfl rfl (by kernel_rfl) (by kernel_rfl) (by kernel_rfl) (fun _ _ _ h => h) ⟨by rfl, ?_⟩ hS ?_
  rotate_left
  · intro wq hSw; go_simp; try rfl
  simp only [Act.put, List.setIfInBounds_toArray, List.set_cons_zero, List.set_cons_succ]
  refine take_at 11 (some 14) (v := ?_) rfl rfl (by kernel_rfl) (by kernel_rfl) (by kernel_rfl) (fun _ _ _ h => h) ⟨by rfl, ?_⟩ hS ?_
  rotate_left
  · intro wq hSw; go_simp; try rfl
  simp only [Act.put, List.setIfInBounds_toArray, List.set_cons_zero, List.set_cons_succ]
  refine take_at 13 (some 16) (v := ?_) rfl rfl (by kernel_rfl) (by kernel_rfl) (by kernel_rfl) (fun _ _ _ h => h) ⟨by rfl, ?_⟩ hS ?_
  rotate_left
  · intro wq hSw; go_simp; try rfl
  simp only [Act.put, List.setIfInBounds_toArray, List.set_cons_zero, List.set_cons_succ]
  refine take_at 14 (some 17) (v := ?_) rfl rfl (by kernel_rfl) (by kernel_rfl) (by kernel_rfl) (fun _ _ _ h => h) ⟨by rfl, ?_⟩ hS ?_
  rotate_left
  · intro wq hSw; go_simp; try rfl
  simp only [Act.put, List.setIfInBounds_toArray, List.set_cons_zero, List.set_cons_succ]
  refine take_at 15 (some 18) (v := ?_) rfl rfl (by kernel_rfl) (by kernel_rfl) (by kernel_rfl) (fun _ _ _ h => h) ⟨by rfl, ?_⟩ hS ?_
  rotate_left
  · intro wq hSw; go_simp; try rfl
  simp only [Act.put, List.setIfInBounds_toArray, List.set_cons_zero, List.set_cons_succ]
  refine take_at 16 (some 19) (v := ?_) rfl rfl (by kernel_rfl) (by kernel_rfl) (by kernel_rfl) (fun _ _ _ h => h) ⟨by rfl, ?_⟩ hS ?_
  rotate_left
  · intro wq hSw; have q := (Cells.get (S1.out wq hSw).ps 0 (ptr tb) rfl).1; go_simp; try rfl
  simp only [Act.put, List.setIfInBounds_toArray, List.set_cons_zero, List.set_cons_succ]
  refine wpAnyH_ready (rs := [4]) (by kernel_rfl) (by simp) ?_
  refine AllReadyH.cons rfl (fun K hK => ?_) AllReadyH.nil
  go_simp
  go_wp2_with fail
  refine (live_any tb m p.tb _ (S1.out _ hS).pt).mono ?_
  rintro e w2 ⟨vL, rfl, hg2, -, hb2⟩
  have G2 := hide hg2
  have B2 := hide (KD.out.trans (hb2.mono KD.out.size))
  clear hg2 hb2 hS
  go_wp2_with fail
  refine hK.out _ _ (Keep.of_below (S := fun z => z = rb) B2.out) (fun hS => ?_)
  clear hK K
  (try simp only [Act.put, List.setIfInBounds_toArray, List.set_cons_zero, List.set_cons_succ])
  refine wpAnyH_ready (rs := [8]) (by kernel_rfl) (by simp) ?_
  refine AllReadyH.cons rfl (fun K hK => ?_) AllReadyH.nil
  go_simp
  go_wp2_with fail
  refine (told_any b (ptr tb) p.pg _ (S1.out _ hS).ps).mono ?_
  rintro e w3 ⟨vD, rfl, hg3, hb3⟩
  have G3 := hide hg3
  have B3 := hide (B2.out.trans (hb3.mono B2.out.size))
  have C3 := hide hb3
  clear hg3 hb3 hS
  go_wp2_with fail
  refine hK.out _ _ (Keep.of_below (S := fun z => z = rb) B3.out) (fun hS => ?_)
  clear hK K
  (try simp only [Act.put, List.setIfInBounds_toArray, List.set_cons_zero, List.set_cons_succ])
  refine wpAnyH_ready (rs := [12]) (by kernel_rfl) (by simp) ?_
  refine AllReadyH.cons rfl (fun K hK => ?_) AllReadyH.nil
  go_simp
  go_wp2_with fail
  refine (least_any b (ptr tb) p.pg _ (S1.out _ hS).ps).mono ?_
  rintro e w4 ⟨rfl, hb4⟩
  have B4 := hide (B3.out.trans (hb4.mono B3.out.size))
  have C4 := hide hb4
  clear hb4 hS
  go_wp2_with fail
  refine hK.out _ _ (Keep.of_below (S := fun z => z = rb) B4.out) (fun hS => ?_)
  clear hK K
  (try simp only [Act.put, List.setIfInBounds_toArray, List.set_cons_zero, List.set_cons_succ])
  refine wpAnyH_ready (rs := [17]) (by kernel_rfl) (by simp) ?_
  refine AllReadyH.cons rfl (fun K hK => ?_) AllReadyH.nil
  go_simp
  go_wp2_with fail
  refine (next_any tb m p.tb _ (S1.out _ hS).pt).mono ?_
  rintro e w5 ⟨rfl, h5⟩
  have E5 := hide h5.symm
  clear h5 hS
  go_wp2_with fail
  refine hK.out _ _ (by rw [E5.out]; exact Keep.of_below (S := fun z => z = rb) B4.out) (fun hS => ?_)
  clear hK K
  (try simp only [Act.put, List.setIfInBounds_toArray, List.set_cons_zero, List.set_cons_succ])
  have S5 := hS
  have G2c := hide (GRow.below (GRow.below G2.out C3.out) C4.out)
  have G3c := hide (GRow.below G3.out C4.out)
  obtain ⟨la, lc, hla, -⟩ := GRow.lies G2.out
  obtain ⟨da, dc, hda, -⟩ := GRow.lies G3.out
  subst hla hda
  have X4 := hide (show Cells w5 rb [.slice none 0 0, .slice none 0 0, .int .i64 0, .int .i64 0] by rw [E5.out]; exact X1.out.below B4.out)
  obtain ⟨z0, f0⟩ := X4.out.get 0 _ rfl
  obtain ⟨z1, f1⟩ := X4.out.get 1 _ rfl
  obtain ⟨z2, f2⟩ := X4.out.get 2 _ rfl
  obtain ⟨z3, f3⟩ := X4.out.get 3 _ rfl
  refine take_at 18 (some 21) (v := ?_) rfl rfl (by kernel_rfl) (by kernel_rfl) (by kernel_rfl) (fun _ _ _ h => h) ⟨by rfl, ?_⟩ hS ?_
  rotate_left
  · intro wq hSw; go_simp; try rfl
  simp only [Act.put, List.setIfInBounds_toArray, List.set_cons_zero, List.set_cons_succ]
  refine wpAnyH_ready (rs := [19]) (by kernel_rfl) (by simp) ?_
  refine AllReadyH.cons rfl (fun K hK => ?_) AllReadyH.nil
  go_simp
  go_wp2_with fail
  obtain ⟨C6, K6⟩ := set4 X4.out (.slice la p.tb.L.length lc) (.slice da (toldL p.pg 64).length dc) (.int .i64 (leastL p.pg 64)) (.int .i64 p.tb.next)
  clear z0 z1 z2 z3 f0 f1 f2 f3
  generalize ((((w5.setCell { block := rb, off := 0 } (Value.slice la p.tb.L.length lc)).setCell { block := rb, off := 1 } (Value.slice da (toldL p.pg 64).length dc)).setCell { block := rb, off := 2 } (Value.int IntKind.i64 (leastL p.pg 64))).setCell { block := rb, off := 3 } (Value.int IntKind.i64 p.tb.next)) = w6 at *
  have K7 := hide (S5.trans K6 (fun _ _ q => q))
  refine hK.out _ _ K7.out (fun hS => ?_)
  clear hK K hS
  (try simp only [Act.put, List.setIfInBounds_toArray, List.set_cons_zero, List.set_cons_succ])
  refine wpAnyH_done (by kernel_rfl) ?_ _
  obtain ⟨y0, -⟩ := C6.get 0 _ rfl
  obtain ⟨y1, -⟩ := C6.get 1 _ rfl
  obtain ⟨y2, -⟩ := C6.get 2 _ rfl
  obtain ⟨y3, -⟩ := C6.get 3 _ rfl
  have hout : FoundOut w w6 (.slice la p.tb.L.length lc) (.slice da (toldL p.pg 64).length dc) p.found := by
    have e5 := E5.out
    have hr : w.heap.size ≤ rb := by rw [HB.out]; exact Nat.le_refl _
    have hlt := X1.out.1
    refine ⟨GRow.mono (GRow.keep (by rw [e5]; exact G2c.out) K6 (fun g hg q => ?_)) (Nat.le_trans B1.out.size KD.out.size), GRow.mono (GRow.keep (by rw [e5]; exact G3c.out) K6 (fun g hg q => ?_)) (Nat.le_trans B1.out.size B2.out.size), B1.out.trans (K7.out.below B1.out.size (fun z hz q => by omega))⟩
    · have := (World.ownsRow.lt G2.out g hg).1; have := KD.out.size; omega
    · have := (World.ownsRow.lt G3.out g hg).1; have := B2.out.size; omega
  clear C6 K6 K7 X4 S5 X1 P1 S1 G2 G3 G2c G3c B2 B3 B4 C3 C4 KD E5 B1 HB NE
  go_wp2_with fail
  exact bodyPost_ret (v := .agg (fdA (.slice la p.tb.L.length lc) (.slice da (toldL p.pg 64).length dc) p.found)) (by simp [results, Tryz.results18, go_sem, y0, y1, y2, y3, fdA, PassM.found]) rfl ⟨_, _, rfl, hout⟩
end Go.Proofs.YtblngphjoafidaaGreat
