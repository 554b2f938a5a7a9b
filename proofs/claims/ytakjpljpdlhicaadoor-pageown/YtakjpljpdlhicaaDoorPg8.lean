import Derived.Test.YtakjpljpdlhicaaDoorPg7
namespace Go.Proofs.YtakjpljpdlhicaaDoor
open Go.RowKit Go.QK Go.Pg
set_option maxRecDepth 100000

/-- The world under a name. -/
theorem named {P : World → Prop} {W : World} (h : ∀ w3, w3 = W → P w3) : P W := h W rfl
set_option maxHeartbeats 4000000 in
theorem readHead_any (a : Option Addr) (c n0 n1 n2 n3 n4 n5 n6 : Nat) (l : List Nat) (w : World) (hs : Bytes w a l) (hb : AllB l) (hl : l.length = 1024) (hc : 1024 ≤ c) (ht : takeN headS l = [n0, n1, n2, n3, n4, n5, n6]) :
    Calls Tryd.prog 26 #[.slice a l.length c] w fun e w' => ∃ a', e = .returned (.tuple #[head7 n0 n1 n2 n3 n4 n5 n6, .slice a' (l.drop 16).length (c - 16)]) ∧ (∀ W, Bytes W a l → Bytes W a' (l.drop 16)) ∧ Below w.heap.size w w' := by
  obtain ⟨w2, hw2⟩ : ∃ w2, w2 = w.alloc (.cells #[.int .u64 0, .int .u64 0, .int .u64 0, .int .u64 0, .int .u64 0, .int .u64 0, .int .u64 0] 65) := ⟨_, rfl⟩
  have b2 : Below w.heap.size w w2 := by rw [hw2]; exact alloc_below _ _
  have z2 : w2.heap.size = w.heap.size + 1 := by rw [hw2]; simp
  have c2 : Cells w2 w.heap.size [.int .u64 0, .int .u64 0, .int .u64 0, .int .u64 0, .int .u64 0, .int .u64 0, .int .u64 0] := by rw [hw2]; exact Cells.new w _ _
  have HW := hide hw2
  have Z2 := hide z2
  have HL := hide hl
  have HT := hide ht
  clear hw2 z2 hl ht
  go_enter Tryd.func26, Tryd.ntmps26
  go_upto_region 1 with fail
  rw [← HW.out]
  go_wp2_with fail
  refine (headSizes_any w2).mono ?_
  rintro e w3 ⟨rfl, hss, b3, z3⟩
  have Z3 := hide z3
  clear z3
  have TK := take_any a (some ⟨w2.heap.size, 0, none⟩) c 7 l headS w3 ((hs.below b2).below b3) hb (by have := HL.out; omega) (by have := HL.out; omega) sizesH hss (by decide) (by rw [HL.out]; decide)
  rw [HT.out] at TK
  have TK : Calls Tryd.prog 45 #[.slice a l.length c, .slice (some ⟨w2.heap.size, 0, none⟩) 7 7] w3 fun e w' => ∃ v a', e = .returned (.tuple #[v, .slice a' (l.drop 16).length (c - 16)]) ∧ OwnU w' w3.heap.size v [n0, n1, n2, n3, n4, n5, n6] ∧ (∀ W, Bytes W a l → Bytes W a' (l.drop 16)) ∧ Below w3.heap.size w3 w' := TK
  go_wp2_with fail
  refine TK.mono ?_
  rintro e w4 ⟨v, a', rfl, ho, hb4, b4⟩
  clear TK
  obtain ⟨g, cap, rfl, hcap, hBg, hgl⟩ := Owns.form ho (by simp)
  have hsee := Owns.seen_at ho
  obtain ⟨b, off, hab, _, r⟩ := row7 hsee
  simp only [Option.some.injEq, Addr.mk.injEq, and_true] at hab
  obtain ⟨rfl, rfl⟩ := hab
  simp only [Nat.zero_add] at r
  have c4 := (c2.below b3).below b4
  have hne : ¬ g = w.heap.size := by have := Z3.out; have := Z2.out; omega
  have B4 := hide (bnext (bnext b2 b3 (Nat.le_refl _)) b4 (Nat.le_refl _))
  have FX := hide r
  have C4 := hide c4.drew
  have BY4 := hide hb4
  have G4 := hide hgl
  have hlen7 : (ints [n0, n1, n2, n3, n4, n5, n6]).length = 7 := rfl
  rw [hlen7] at *
  clear hlen7 hb4 hsee ho r c4 b4 hss b3 c2 b2 hs hcap hBg hgl
  go_upto_region 2 with fail
  refine wp_region_held_drew (S := fun wq => wq.cell? ⟨g, 0, none⟩ = some (.int .u64 (n0 : Int)) ∧ wq.cell? ⟨g, 1, none⟩ = some (.int .u64 (n1 : Int)) ∧ wq.cell? ⟨g, 2, none⟩ = some (.int .u64 (n2 : Int)) ∧ wq.cell? ⟨g, 3, none⟩ = some (.int .u64 (n3 : Int)) ∧ wq.cell? ⟨g, 4, none⟩ = some (.int .u64 (n4 : Int)) ∧ wq.cell? ⟨g, 5, none⟩ = some (.int .u64 (n5 : Int)) ∧ wq.cell? ⟨g, 6, none⟩ = some (.int .u64 (n6 : Int))) (by kernel_rfl) FX.out (fun hS => ?_)
  have B4 := hide (show Below w.heap.size w w4.drew from B4.out.drew)
  have G4 : Hid (g < w4.drew.heap.size) := G4
  generalize w4.drew = w5 at *
  clear FX
  refine take_at 0 (some 12) (v := ?_) rfl rfl (by kernel_rfl) (by kernel_rfl) (by kernel_rfl) (fun _ _ _ h => h) ⟨by rfl, ?_⟩ hS ?_
  rotate_left
  · intro wq hSw; go_simp; try rfl
  simp only [Act.put, List.setIfInBounds_toArray, List.set_cons_zero, List.set_cons_succ]
  refine take_at 1 (some 13) (v := ?_) rfl rfl (by kernel_rfl) (by kernel_rfl) (by kernel_rfl) (fun _ _ _ h => h) ⟨by rfl, ?_⟩ hS ?_
  rotate_left
  · intro wq hSw; go_simp; try rfl
  simp only [Act.put, List.setIfInBounds_toArray, List.set_cons_zero, List.set_cons_succ]
  refine take_at 2 (some 14) (v := ?_) rfl rfl (by kernel_rfl) (by kernel_rfl) (by kernel_rfl) (fun _ _ _ h => h) ⟨by rfl, ?_⟩ hS ?_
  rotate_left
  · intro wq hSw; obtain ⟨y0, y1, y2, y3, y4, y5, y6⟩ := hSw; go_simp; try rfl
  simp only [Act.put, List.setIfInBounds_toArray, List.set_cons_zero, List.set_cons_succ]
  refine take_at 3 (some 15) (v := ?_) rfl rfl (by kernel_rfl) (by kernel_rfl) (by kernel_rfl) (fun _ _ _ h => h) ⟨by rfl, ?_⟩ hS ?_
  rotate_left
  · intro wq hSw; go_simp; try rfl
  simp only [Act.put, List.setIfInBounds_toArray, List.set_cons_zero, List.set_cons_succ]
  refine take_at 4 (some 16) (v := ?_) rfl rfl (by kernel_rfl) (by kernel_rfl) (by kernel_rfl) (fun _ _ _ h => h) ⟨by rfl, ?_⟩ hS ?_
  rotate_left
  · intro wq hSw; go_simp; try rfl
  simp only [Act.put, List.setIfInBounds_toArray, List.set_cons_zero, List.set_cons_succ]
  refine take_at 5 (some 17) (v := ?_) rfl rfl (by kernel_rfl) (by kernel_rfl) (by kernel_rfl) (fun _ _ _ h => h) ⟨by rfl, ?_⟩ hS ?_
  rotate_left
  · intro wq hSw; obtain ⟨y0, y1, y2, y3, y4, y5, y6⟩ := hSw; go_simp; try rfl
  simp only [Act.put, List.setIfInBounds_toArray, List.set_cons_zero, List.set_cons_succ]
  refine take_at 6 (some 18) (v := ?_) rfl rfl (by kernel_rfl) (by kernel_rfl) (by kernel_rfl) (fun _ _ _ h => h) ⟨by rfl, ?_⟩ hS ?_
  rotate_left
  · intro wq hSw; go_simp; try rfl
  simp only [Act.put, List.setIfInBounds_toArray, List.set_cons_zero, List.set_cons_succ]
  refine take_at 7 (some 19) (v := ?_) rfl rfl (by kernel_rfl) (by kernel_rfl) (by kernel_rfl) (fun _ _ _ h => h) ⟨by rfl, ?_⟩ hS ?_
  rotate_left
  · intro wq hSw; go_simp; try rfl
  simp only [Act.put, List.setIfInBounds_toArray, List.set_cons_zero, List.set_cons_succ]
  refine take_at 8 (some 20) (v := ?_) rfl rfl (by kernel_rfl) (by kernel_rfl) (by kernel_rfl) (fun _ _ _ h => h) ⟨by rfl, ?_⟩ hS ?_
  rotate_left
  · intro wq hSw; obtain ⟨y0, y1, y2, y3, y4, y5, y6⟩ := hSw; go_simp; try rfl
  simp only [Act.put, List.setIfInBounds_toArray, List.set_cons_zero, List.set_cons_succ]
  refine take_at 9 (some 21) (v := ?_) rfl rfl (by kernel_rfl) (by kernel_rfl) (by kernel_rfl) (fun _ _ _ h => h) ⟨by rfl, ?_⟩ hS ?_
  rotate_left
  · intro wq hSw; go_simp; try rfl
  simp only [Act.put, List.setIfInBounds_toArray, List.set_cons_zero, List.set_cons_succ]
  refine take_at 10 (some 22) (v := ?_) rfl rfl (by kernel_rfl) (by kernel_rfl) (by kernel_rfl) (fun _ _ _ h => h) ⟨by rfl, ?_⟩ hS ?_
  rotate_left
  · intro wq hSw; go_simp; try rfl
  simp only [Act.put, List.setIfInBounds_toArray, List.set_cons_zero, List.set_cons_succ]
  refine take_at 11 (some 23) (v := ?_) rfl rfl (by kernel_rfl) (by kernel_rfl) (by kernel_rfl) (fun _ _ _ h => h) ⟨by rfl, ?_⟩ hS ?_
  rotate_left
  · intro wq hSw; obtain ⟨y0, y1, y2, y3, y4, y5, y6⟩ := hSw; go_simp; try rfl
  simp only [Act.put, List.setIfInBounds_toArray, List.set_cons_zero, List.set_cons_succ]
  refine take_at 12 (some 24) (v := ?_) rfl rfl (by kernel_rfl) (by kernel_rfl) (by kernel_rfl) (fun _ _ _ h => h) ⟨by rfl, ?_⟩ hS ?_
  rotate_left
  · intro wq hSw; go_simp; try rfl
  simp only [Act.put, List.setIfInBounds_toArray, List.set_cons_zero, List.set_cons_succ]
  refine take_at 13 (some 25) (v := ?_) rfl rfl (by kernel_rfl) (by kernel_rfl) (by kernel_rfl) (fun _ _ _ h => h) ⟨by rfl, ?_⟩ hS ?_
  rotate_left
  · intro wq hSw; go_simp; try rfl
  simp only [Act.put, List.setIfInBounds_toArray, List.set_cons_zero, List.set_cons_succ]
  refine take_at 14 (some 26) (v := ?_) rfl rfl (by kernel_rfl) (by kernel_rfl) (by kernel_rfl) (fun _ _ _ h => h) ⟨by rfl, ?_⟩ hS ?_
  rotate_left
  · intro wq hSw; obtain ⟨y0, y1, y2, y3, y4, y5, y6⟩ := hSw; go_simp; try rfl
  simp only [Act.put, List.setIfInBounds_toArray, List.set_cons_zero, List.set_cons_succ]
  refine take_at 15 (some 27) (v := ?_) rfl rfl (by kernel_rfl) (by kernel_rfl) (by kernel_rfl) (fun _ _ _ h => h) ⟨by rfl, ?_⟩ hS ?_
  rotate_left
  · intro wq hSw; go_simp; try rfl
  simp only [Act.put, List.setIfInBounds_toArray, List.set_cons_zero, List.set_cons_succ]
  refine take_at 16 (some 28) (v := ?_) rfl rfl (by kernel_rfl) (by kernel_rfl) (by kernel_rfl) (fun _ _ _ h => h) ⟨by rfl, ?_⟩ hS ?_
  rotate_left
  · intro wq hSw; go_simp; try rfl
  simp only [Act.put, List.setIfInBounds_toArray, List.set_cons_zero, List.set_cons_succ]
  refine take_at 17 (some 29) (v := ?_) rfl rfl (by kernel_rfl) (by kernel_rfl) (by kernel_rfl) (fun _ _ _ h => h) ⟨by rfl, ?_⟩ hS ?_
  rotate_left
  · intro wq hSw; obtain ⟨y0, y1, y2, y3, y4, y5, y6⟩ := hSw; go_simp; try rfl
  simp only [Act.put, List.setIfInBounds_toArray, List.set_cons_zero, List.set_cons_succ]
  refine take_at 18 (some 30) (v := ?_) rfl rfl (by kernel_rfl) (by kernel_rfl) (by kernel_rfl) (fun _ _ _ h => h) ⟨by rfl, ?_⟩ hS ?_
  rotate_left
  · intro wq hSw; go_simp; try rfl
  simp only [Act.put, List.setIfInBounds_toArray, List.set_cons_zero, List.set_cons_succ]
  refine take_at 19 (some 31) (v := ?_) rfl rfl (by kernel_rfl) (by kernel_rfl) (by kernel_rfl) (fun _ _ _ h => h) ⟨by rfl, ?_⟩ hS ?_
  rotate_left
  · intro wq hSw; go_simp; try rfl
  simp only [Act.put, List.setIfInBounds_toArray, List.set_cons_zero, List.set_cons_succ]
  refine take_at 20 (some 32) (v := ?_) rfl rfl (by kernel_rfl) (by kernel_rfl) (by kernel_rfl) (fun _ _ _ h => h) ⟨by rfl, ?_⟩ hS ?_
  rotate_left
  · intro wq hSw; obtain ⟨y0, y1, y2, y3, y4, y5, y6⟩ := hSw; go_simp; try rfl
  simp only [Act.put, List.setIfInBounds_toArray, List.set_cons_zero, List.set_cons_succ]
  refine take_at 21 (some 33) (v := ?_) rfl rfl (by kernel_rfl) (by kernel_rfl) (by kernel_rfl) (fun _ _ _ h => h) ⟨by rfl, ?_⟩ hS ?_
  rotate_left
  · intro wq hSw; go_simp; try rfl
  simp only [Act.put, List.setIfInBounds_toArray, List.set_cons_zero, List.set_cons_succ]
  refine take_at 22 (some 34) (v := ?_) rfl rfl (by kernel_rfl) (by kernel_rfl) (by kernel_rfl) (fun _ _ _ h => h) ⟨by rfl, ?_⟩ hS ?_
  rotate_left
  · intro wq hSw; go_simp; try rfl
  simp only [Act.put, List.setIfInBounds_toArray, List.set_cons_zero, List.set_cons_succ]
  obtain ⟨g0, f0⟩ := C4.out.get 0 _ rfl
  obtain ⟨g1, f1⟩ := C4.out.get 1 _ rfl
  obtain ⟨g2, f2⟩ := C4.out.get 2 _ rfl
  obtain ⟨g3, f3⟩ := C4.out.get 3 _ rfl
  obtain ⟨g4, f4⟩ := C4.out.get 4 _ rfl
  obtain ⟨g5, f5⟩ := C4.out.get 5 _ rfl
  obtain ⟨g6, f6⟩ := C4.out.get 6 _ rfl
  have C6 := (((((((C4.out.stored (j := 0) (by simp) (.int .u64 (n0 : Int))).stored (j := 1) (by simp) (.int .u64 (n1 : Int))).stored (j := 2) (by simp) (.int .u64 (n2 : Int))).stored (j := 3) (by simp) (.int .u64 (n3 : Int))).stored (j := 4) (by simp) (.int .u64 (n4 : Int))).stored (j := 5) (by simp) (.int .u64 (n5 : Int))).stored (j := 6) (by simp) (.int .u64 (n6 : Int)))
  have K6 := ((((((((Keep.refl (fun k => k = w.heap.size) w5).setCell (g := w.heap.size) (j := 0) (fun _ => rfl) (.int .u64 (n0 : Int))).setCell (g := w.heap.size) (j := 1) (fun _ => rfl) (.int .u64 (n1 : Int))).setCell (g := w.heap.size) (j := 2) (fun _ => rfl) (.int .u64 (n2 : Int))).setCell (g := w.heap.size) (j := 3) (fun _ => rfl) (.int .u64 (n3 : Int))).setCell (g := w.heap.size) (j := 4) (fun _ => rfl) (.int .u64 (n4 : Int))).setCell (g := w.heap.size) (j := 5) (fun _ => rfl) (.int .u64 (n5 : Int))).setCell (g := w.heap.size) (j := 6) (fun _ => rfl) (.int .u64 (n6 : Int)))
  obtain ⟨k0, _⟩ := C6.get 0 _ rfl
  obtain ⟨k1, _⟩ := C6.get 1 _ rfl
  obtain ⟨k2, _⟩ := C6.get 2 _ rfl
  obtain ⟨k3, _⟩ := C6.get 3 _ rfl
  obtain ⟨k4, _⟩ := C6.get 4 _ rfl
  obtain ⟨k5, _⟩ := C6.get 5 _ rfl
  obtain ⟨k6, _⟩ := C6.get 6 _ rfl
  have z5 := C4.out.1
  have BF := hide (B4.out.trans (K6.below (Nat.le_of_lt z5) (fun k hk q => by omega)))
  have hS6 := hide (show (((((((w5.setCell ⟨w.heap.size, 0, none⟩ (.int .u64 (n0 : Int))).setCell ⟨w.heap.size, 1, none⟩ (.int .u64 (n1 : Int))).setCell ⟨w.heap.size, 2, none⟩ (.int .u64 (n2 : Int))).setCell ⟨w.heap.size, 3, none⟩ (.int .u64 (n3 : Int))).setCell ⟨w.heap.size, 4, none⟩ (.int .u64 (n4 : Int))).setCell ⟨w.heap.size, 5, none⟩ (.int .u64 (n5 : Int))).setCell ⟨w.heap.size, 6, none⟩ (.int .u64 (n6 : Int))).cell? ⟨g, 0, none⟩ = some (.int .u64 (n0 : Int)) ∧ (((((((w5.setCell ⟨w.heap.size, 0, none⟩ (.int .u64 (n0 : Int))).setCell ⟨w.heap.size, 1, none⟩ (.int .u64 (n1 : Int))).setCell ⟨w.heap.size, 2, none⟩ (.int .u64 (n2 : Int))).setCell ⟨w.heap.size, 3, none⟩ (.int .u64 (n3 : Int))).setCell ⟨w.heap.size, 4, none⟩ (.int .u64 (n4 : Int))).setCell ⟨w.heap.size, 5, none⟩ (.int .u64 (n5 : Int))).setCell ⟨w.heap.size, 6, none⟩ (.int .u64 (n6 : Int))).cell? ⟨g, 1, none⟩ = some (.int .u64 (n1 : Int)) ∧ (((((((w5.setCell ⟨w.heap.size, 0, none⟩ (.int .u64 (n0 : Int))).setCell ⟨w.heap.size, 1, none⟩ (.int .u64 (n1 : Int))).setCell ⟨w.heap.size, 2, none⟩ (.int .u64 (n2 : Int))).setCell ⟨w.heap.size, 3, none⟩ (.int .u64 (n3 : Int))).setCell ⟨w.heap.size, 4, none⟩ (.int .u64 (n4 : Int))).setCell ⟨w.heap.size, 5, none⟩ (.int .u64 (n5 : Int))).setCell ⟨w.heap.size, 6, none⟩ (.int .u64 (n6 : Int))).cell? ⟨g, 2, none⟩ = some (.int .u64 (n2 : Int)) ∧ (((((((w5.setCell ⟨w.heap.size, 0, none⟩ (.int .u64 (n0 : Int))).setCell ⟨w.heap.size, 1, none⟩ (.int .u64 (n1 : Int))).setCell ⟨w.heap.size, 2, none⟩ (.int .u64 (n2 : Int))).setCell ⟨w.heap.size, 3, none⟩ (.int .u64 (n3 : Int))).setCell ⟨w.heap.size, 4, none⟩ (.int .u64 (n4 : Int))).setCell ⟨w.heap.size, 5, none⟩ (.int .u64 (n5 : Int))).setCell ⟨w.heap.size, 6, none⟩ (.int .u64 (n6 : Int))).cell? ⟨g, 3, none⟩ = some (.int .u64 (n3 : Int)) ∧ (((((((w5.setCell ⟨w.heap.size, 0, none⟩ (.int .u64 (n0 : Int))).setCell ⟨w.heap.size, 1, none⟩ (.int .u64 (n1 : Int))).setCell ⟨w.heap.size, 2, none⟩ (.int .u64 (n2 : Int))).setCell ⟨w.heap.size, 3, none⟩ (.int .u64 (n3 : Int))).setCell ⟨w.heap.size, 4, none⟩ (.int .u64 (n4 : Int))).setCell ⟨w.heap.size, 5, none⟩ (.int .u64 (n5 : Int))).setCell ⟨w.heap.size, 6, none⟩ (.int .u64 (n6 : Int))).cell? ⟨g, 4, none⟩ = some (.int .u64 (n4 : Int)) ∧ (((((((w5.setCell ⟨w.heap.size, 0, none⟩ (.int .u64 (n0 : Int))).setCell ⟨w.heap.size, 1, none⟩ (.int .u64 (n1 : Int))).setCell ⟨w.heap.size, 2, none⟩ (.int .u64 (n2 : Int))).setCell ⟨w.heap.size, 3, none⟩ (.int .u64 (n3 : Int))).setCell ⟨w.heap.size, 4, none⟩ (.int .u64 (n4 : Int))).setCell ⟨w.heap.size, 5, none⟩ (.int .u64 (n5 : Int))).setCell ⟨w.heap.size, 6, none⟩ (.int .u64 (n6 : Int))).cell? ⟨g, 5, none⟩ = some (.int .u64 (n5 : Int)) ∧ (((((((w5.setCell ⟨w.heap.size, 0, none⟩ (.int .u64 (n0 : Int))).setCell ⟨w.heap.size, 1, none⟩ (.int .u64 (n1 : Int))).setCell ⟨w.heap.size, 2, none⟩ (.int .u64 (n2 : Int))).setCell ⟨w.heap.size, 3, none⟩ (.int .u64 (n3 : Int))).setCell ⟨w.heap.size, 4, none⟩ (.int .u64 (n4 : Int))).setCell ⟨w.heap.size, 5, none⟩ (.int .u64 (n5 : Int))).setCell ⟨w.heap.size, 6, none⟩ (.int .u64 (n6 : Int))).cell? ⟨g, 6, none⟩ = some (.int .u64 (n6 : Int)) from by
    obtain ⟨y0, y1, y2, y3, y4, y5, y6⟩ := hS
    exact ⟨(K6.cell (p := ⟨g, 0, none⟩) G4.out hne).trans y0, (K6.cell (p := ⟨g, 1, none⟩) G4.out hne).trans y1, (K6.cell (p := ⟨g, 2, none⟩) G4.out hne).trans y2, (K6.cell (p := ⟨g, 3, none⟩) G4.out hne).trans y3, (K6.cell (p := ⟨g, 4, none⟩) G4.out hne).trans y4, (K6.cell (p := ⟨g, 5, none⟩) G4.out hne).trans y5, (K6.cell (p := ⟨g, 6, none⟩) G4.out hne).trans y6⟩)
  clear C6 K6
  refine wpAnyH_ready (rs := [23]) (by kernel_rfl) (by simp) ?_
  refine AllReadyH.cons rfl (fun K hK => ?_) AllReadyH.nil
  go_simp
  go_wp2_with fail
  refine hK.out _ _ hS6.out (fun hS => ?_)
  clear hK K
  (try simp only [Act.put, List.setIfInBounds_toArray, List.set_cons_zero, List.set_cons_succ])
  refine take_at 24 (some 3) (v := ?_) rfl rfl (by kernel_rfl) (by kernel_rfl) (by kernel_rfl) (fun _ _ _ h => h) ⟨by rfl, ?_⟩ hS ?_
  rotate_left
  · intro wq hSw; go_simp; try rfl
  simp only [Act.put, List.setIfInBounds_toArray, List.set_cons_zero, List.set_cons_succ]
  refine wpAnyH_done (by kernel_rfl) ?_ _
  go_wp2_with fail
  refine bodyPost_ret (v := .tuple #[head7 n0 n1 n2 n3 n4 n5 n6, .slice a' (l.drop 16).length (c - 16)]) (by simp only [results, Tryd.results26]; simp [go_sem, k0, k1, k2, k3, k4, k5, k6]) rfl ?_
  exact ⟨a', rfl, BY4.out, BF.out⟩
end Go.Proofs.YtakjpljpdlhicaaDoor
