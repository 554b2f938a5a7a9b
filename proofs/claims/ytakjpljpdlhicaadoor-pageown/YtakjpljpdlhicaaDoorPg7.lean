import Derived.Test.YtakjpljpdlhicaaDoorPg5
namespace Go.Proofs.YtakjpljpdlhicaaDoor
open Go.RowKit Go.QK Go.Pg
set_option maxRecDepth 100000

theorem wrap_un (x : Int) : IntKind.u64.wrap x = ((un x : Nat) : Int) := by rw [IntKind.wrap_u64]; unfold un; omega
theorem wrap_sg {n : Nat} (h : n < 18446744073709551616) : IntKind.i64.wrap (n : Int) = sg n := by rw [IntKind.wrap_i64]; unfold sg; split <;> omega
abbrev head7 (a b c d e f g : Nat) : Value := .agg #[.int .u64 (a : Int), .int .u64 (b : Int), .int .u64 (c : Int), .int .u64 (d : Int), .int .u64 (e : Int), .int .u64 (f : Int), .int .u64 (g : Int)]
theorem row5 {w : World} {a : Option Addr} {n0 n1 n2 n3 n4 : Nat} (h : Seen .u64 w a (ints [n0, n1, n2, n3, n4])) : ∃ b off, a = some ⟨b, off, none⟩ ∧ b < w.heap.size ∧ w.cell? ⟨b, off, none⟩ = some (.int .u64 (n0 : Int)) ∧ w.cell? ⟨b, off + 1, none⟩ = some (.int .u64 (n1 : Int)) ∧ w.cell? ⟨b, off + 2, none⟩ = some (.int .u64 (n2 : Int)) ∧ w.cell? ⟨b, off + 3, none⟩ = some (.int .u64 (n3 : Int)) ∧ w.cell? ⟨b, off + 4, none⟩ = some (.int .u64 (n4 : Int)) := by
  rcases h with h | ⟨b, off, rfl, hb, hc⟩
  · simp [ints] at h
  · exact ⟨b, off, rfl, hb, hc 0 (by simp), hc 1 (by simp), hc 2 (by simp), hc 3 (by simp), hc 4 (by simp)⟩
theorem row7 {w : World} {a : Option Addr} {n0 n1 n2 n3 n4 n5 n6 : Nat} (h : Seen .u64 w a (ints [n0, n1, n2, n3, n4, n5, n6])) : ∃ b off, a = some ⟨b, off, none⟩ ∧ b < w.heap.size ∧ w.cell? ⟨b, off, none⟩ = some (.int .u64 (n0 : Int)) ∧ w.cell? ⟨b, off + 1, none⟩ = some (.int .u64 (n1 : Int)) ∧ w.cell? ⟨b, off + 2, none⟩ = some (.int .u64 (n2 : Int)) ∧ w.cell? ⟨b, off + 3, none⟩ = some (.int .u64 (n3 : Int)) ∧ w.cell? ⟨b, off + 4, none⟩ = some (.int .u64 (n4 : Int)) ∧ w.cell? ⟨b, off + 5, none⟩ = some (.int .u64 (n5 : Int)) ∧ w.cell? ⟨b, off + 6, none⟩ = some (.int .u64 (n6 : Int)) := by
  rcases h with h | ⟨b, off, rfl, hb, hc⟩
  · simp [ints] at h
  · exact ⟨b, off, rfl, hb, hc 0 (by simp), hc 1 (by simp), hc 2 (by simp), hc 3 (by simp), hc 4 (by simp), hc 5 (by simp), hc 6 (by simp)⟩

set_option maxHeartbeats 2000000 in
theorem counterOf_any (a : Option Addr) (c n0 n1 n2 n3 n4 : Nat) (w : World) (h : Seen .u64 w a (ints [n0, n1, n2, n3, n4])) (h0 : n0 < 18446744073709551616) (h1 : n1 < 18446744073709551616) (h2 : n2 < 18446744073709551616) (h3 : n3 < 18446744073709551616) (h4 : n4 < 18446744073709551616) :
    Calls Tryd.prog 51 #[.slice a 5 c] w fun e w' => e = .returned (.agg #[.int .i64 (sg n0), .int .i64 (sg n1), .int .i64 (sg n2), .int .i64 (sg n3), .int .i64 (sg n4)]) ∧ Below w.heap.size w w' := by
  obtain ⟨b, off, rfl, hb, r⟩ := row5 h
  have e0 := wrap_sg h0
  have e1 := wrap_sg h1
  have e2 := wrap_sg h2
  have e3 := wrap_sg h3
  have e4 := wrap_sg h4
  generalize sg n0 = s0 at *
  generalize sg n1 = s1 at *
  generalize sg n2 = s2 at *
  generalize sg n3 = s3 at *
  generalize sg n4 = s4 at *
  clear h h0 h1 h2 h3 h4
  obtain ⟨w2, hw2⟩ : ∃ w2, w2 = w.alloc (.cells #[.int .i64 0, .int .i64 0, .int .i64 0, .int .i64 0, .int .i64 0] 57) := ⟨_, rfl⟩
  have b2 : Below w.heap.size w w2 := by rw [hw2]; exact alloc_below _ _
  have c4 : Cells w2 w.heap.size [.int .i64 0, .int .i64 0, .int .i64 0, .int .i64 0, .int .i64 0] := by rw [hw2]; exact Cells.new w _ _
  obtain ⟨r0, r1, r2, r3, r4⟩ := r
  have FX := hide (show w2.cell? ⟨b, off, none⟩ = some (.int .u64 (n0 : Int)) ∧ w2.cell? ⟨b, off + 1, none⟩ = some (.int .u64 (n1 : Int)) ∧ w2.cell? ⟨b, off + 2, none⟩ = some (.int .u64 (n2 : Int)) ∧ w2.cell? ⟨b, off + 3, none⟩ = some (.int .u64 (n3 : Int)) ∧ w2.cell? ⟨b, off + 4, none⟩ = some (.int .u64 (n4 : Int)) from
    ⟨(b2.cell (p := ⟨b, off, none⟩) hb).trans r0, (b2.cell (p := ⟨b, off + 1, none⟩) hb).trans r1, (b2.cell (p := ⟨b, off + 2, none⟩) hb).trans r2, (b2.cell (p := ⟨b, off + 3, none⟩) hb).trans r3, (b2.cell (p := ⟨b, off + 4, none⟩) hb).trans r4⟩)
  have HW := hide hw2
  have C4 := hide c4.drew
  have B2 := hide (show Below w.heap.size w w2.drew from b2.drew)
  have z2 := hide (show w.heap.size < w2.drew.heap.size from c4.1)
  obtain ⟨G, hG⟩ : ∃ G, G = w.heap.size := ⟨_, rfl⟩
  have HG := hide hG
  clear hw2 c4 b2 r0 r1 r2 r3 r4
  go_enter Tryd.func51, Tryd.ntmps51
  go_upto_region 1 with fail
  rw [← HW.out]
  refine wp_region_held_drew (S := fun wq => wq.cell? ⟨b, off, none⟩ = some (.int .u64 (n0 : Int)) ∧ wq.cell? ⟨b, off + 1, none⟩ = some (.int .u64 (n1 : Int)) ∧ wq.cell? ⟨b, off + 2, none⟩ = some (.int .u64 (n2 : Int)) ∧ wq.cell? ⟨b, off + 3, none⟩ = some (.int .u64 (n3 : Int)) ∧ wq.cell? ⟨b, off + 4, none⟩ = some (.int .u64 (n4 : Int))) (by kernel_rfl) FX.out (fun hS => ?_)
  generalize w2.drew = w3 at *
  clear FX HW
  refine take_at 0 (some 3) (v := ?_) rfl rfl (by kernel_rfl) (by kernel_rfl) (by kernel_rfl) (fun _ _ _ h => h) ⟨by rfl, ?_⟩ hS ?_
  rotate_left
  · intro wq hSw; go_simp; try rfl
  simp only [Act.put, List.setIfInBounds_toArray, List.set_cons_zero, List.set_cons_succ]
  refine take_at 1 (some 4) (v := ?_) rfl rfl (by kernel_rfl) (by kernel_rfl) (by kernel_rfl) (fun _ _ _ h => h) ⟨by rfl, ?_⟩ hS ?_
  rotate_left
  · intro wq hSw; go_simp; try rfl
  simp only [Act.put, List.setIfInBounds_toArray, List.set_cons_zero, List.set_cons_succ]
  refine take_at 2 (some 5) (v := ?_) rfl rfl (by kernel_rfl) (by kernel_rfl) (by kernel_rfl) (fun _ _ _ h => h) ⟨by rfl, ?_⟩ hS ?_
  rotate_left
  · intro wq hSw; obtain ⟨y0, y1, y2, y3, y4⟩ := hSw; go_simp; try rfl
  simp only [Act.put, List.setIfInBounds_toArray, List.set_cons_zero, List.set_cons_succ]
  refine take_at 3 (some 6) (v := ?_) rfl rfl (by kernel_rfl) (by kernel_rfl) (by kernel_rfl) (fun _ _ _ h => h) ⟨by rfl, ?_⟩ hS ?_
  rotate_left
  · intro wq hSw; go_simp; try rfl
  simp only [Act.put, List.setIfInBounds_toArray, List.set_cons_zero, List.set_cons_succ]
  refine take_at 4 (some 7) (v := ?_) rfl rfl (by kernel_rfl) (by kernel_rfl) (by kernel_rfl) (fun _ _ _ h => h) ⟨by rfl, ?_⟩ hS ?_
  rotate_left
  · intro wq hSw; go_simp; try rfl
  simp only [Act.put, List.setIfInBounds_toArray, List.set_cons_zero, List.set_cons_succ]
  refine take_at 5 (some 8) (v := ?_) rfl rfl (by kernel_rfl) (by kernel_rfl) (by kernel_rfl) (fun _ _ _ h => h) ⟨by rfl, ?_⟩ hS ?_
  rotate_left
  · intro wq hSw; go_simp; try rfl
  simp only [Act.put, List.setIfInBounds_toArray, List.set_cons_zero, List.set_cons_succ]
  refine take_at 6 (some 9) (v := ?_) rfl rfl (by kernel_rfl) (by kernel_rfl) (by kernel_rfl) (fun _ _ _ h => h) ⟨by rfl, ?_⟩ hS ?_
  rotate_left
  · intro wq hSw; obtain ⟨y0, y1, y2, y3, y4⟩ := hSw; go_simp; try rfl
  simp only [Act.put, List.setIfInBounds_toArray, List.set_cons_zero, List.set_cons_succ]
  refine take_at 7 (some 10) (v := ?_) rfl rfl (by kernel_rfl) (by kernel_rfl) (by kernel_rfl) (fun _ _ _ h => h) ⟨by rfl, ?_⟩ hS ?_
  rotate_left
  · intro wq hSw; go_simp; try rfl
  simp only [Act.put, List.setIfInBounds_toArray, List.set_cons_zero, List.set_cons_succ]
  refine take_at 8 (some 11) (v := ?_) rfl rfl (by kernel_rfl) (by kernel_rfl) (by kernel_rfl) (fun _ _ _ h => h) ⟨by rfl, ?_⟩ hS ?_
  rotate_left
  · intro wq hSw; go_simp; try rfl
  simp only [Act.put, List.setIfInBounds_toArray, List.set_cons_zero, List.set_cons_succ]
  refine take_at 9 (some 12) (v := ?_) rfl rfl (by kernel_rfl) (by kernel_rfl) (by kernel_rfl) (fun _ _ _ h => h) ⟨by rfl, ?_⟩ hS ?_
  rotate_left
  · intro wq hSw; go_simp; try rfl
  simp only [Act.put, List.setIfInBounds_toArray, List.set_cons_zero, List.set_cons_succ]
  refine take_at 10 (some 13) (v := ?_) rfl rfl (by kernel_rfl) (by kernel_rfl) (by kernel_rfl) (fun _ _ _ h => h) ⟨by rfl, ?_⟩ hS ?_
  rotate_left
  · intro wq hSw; obtain ⟨y0, y1, y2, y3, y4⟩ := hSw; go_simp; try rfl
  simp only [Act.put, List.setIfInBounds_toArray, List.set_cons_zero, List.set_cons_succ]
  refine take_at 11 (some 14) (v := ?_) rfl rfl (by kernel_rfl) (by kernel_rfl) (by kernel_rfl) (fun _ _ _ h => h) ⟨by rfl, ?_⟩ hS ?_
  rotate_left
  · intro wq hSw; go_simp; try rfl
  simp only [Act.put, List.setIfInBounds_toArray, List.set_cons_zero, List.set_cons_succ]
  refine take_at 12 (some 15) (v := ?_) rfl rfl (by kernel_rfl) (by kernel_rfl) (by kernel_rfl) (fun _ _ _ h => h) ⟨by rfl, ?_⟩ hS ?_
  rotate_left
  · intro wq hSw; go_simp; try rfl
  simp only [Act.put, List.setIfInBounds_toArray, List.set_cons_zero, List.set_cons_succ]
  refine take_at 13 (some 16) (v := ?_) rfl rfl (by kernel_rfl) (by kernel_rfl) (by kernel_rfl) (fun _ _ _ h => h) ⟨by rfl, ?_⟩ hS ?_
  rotate_left
  · intro wq hSw; go_simp; try rfl
  simp only [Act.put, List.setIfInBounds_toArray, List.set_cons_zero, List.set_cons_succ]
  refine take_at 14 (some 17) (v := ?_) rfl rfl (by kernel_rfl) (by kernel_rfl) (by kernel_rfl) (fun _ _ _ h => h) ⟨by rfl, ?_⟩ hS ?_
  rotate_left
  · intro wq hSw; obtain ⟨y0, y1, y2, y3, y4⟩ := hSw; go_simp; try rfl
  simp only [Act.put, List.setIfInBounds_toArray, List.set_cons_zero, List.set_cons_succ]
  refine take_at 15 (some 18) (v := ?_) rfl rfl (by kernel_rfl) (by kernel_rfl) (by kernel_rfl) (fun _ _ _ h => h) ⟨by rfl, ?_⟩ hS ?_
  rotate_left
  · intro wq hSw; go_simp; try rfl
  simp only [Act.put, List.setIfInBounds_toArray, List.set_cons_zero, List.set_cons_succ]
  refine take_at 16 (some 19) (v := ?_) rfl rfl (by kernel_rfl) (by kernel_rfl) (by kernel_rfl) (fun _ _ _ h => h) ⟨by rfl, ?_⟩ hS ?_
  rotate_left
  · intro wq hSw; go_simp; try rfl
  simp only [Act.put, List.setIfInBounds_toArray, List.set_cons_zero, List.set_cons_succ]
  refine take_at 17 (some 20) (v := ?_) rfl rfl (by kernel_rfl) (by kernel_rfl) (by kernel_rfl) (fun _ _ _ h => h) ⟨by rfl, ?_⟩ hS ?_
  rotate_left
  · intro wq hSw; go_simp; try rfl
  simp only [Act.put, List.setIfInBounds_toArray, List.set_cons_zero, List.set_cons_succ]
  refine take_at 18 (some 21) (v := ?_) rfl rfl (by kernel_rfl) (by kernel_rfl) (by kernel_rfl) (fun _ _ _ h => h) ⟨by rfl, ?_⟩ hS ?_
  rotate_left
  · intro wq hSw; go_simp; try rfl
  simp only [Act.put, List.setIfInBounds_toArray, List.set_cons_zero, List.set_cons_succ]
  refine take_at 19 (some 22) (v := ?_) rfl rfl (by kernel_rfl) (by kernel_rfl) (by kernel_rfl) (fun _ _ _ h => h) ⟨by rfl, ?_⟩ hS ?_
  rotate_left
  · intro wq hSw; obtain ⟨y0, y1, y2, y3, y4⟩ := hSw; go_simp; try rfl
  simp only [Act.put, List.setIfInBounds_toArray, List.set_cons_zero, List.set_cons_succ]
  refine take_at 20 (some 23) (v := ?_) rfl rfl (by kernel_rfl) (by kernel_rfl) (by kernel_rfl) (fun _ _ _ h => h) ⟨by rfl, ?_⟩ hS ?_
  rotate_left
  · intro wq hSw; go_simp; try rfl
  simp only [Act.put, List.setIfInBounds_toArray, List.set_cons_zero, List.set_cons_succ]
  refine take_at 21 (some 24) (v := ?_) rfl rfl (by kernel_rfl) (by kernel_rfl) (by kernel_rfl) (fun _ _ _ h => h) ⟨by rfl, ?_⟩ hS ?_
  rotate_left
  · intro wq hSw; go_simp; try rfl
  simp only [Act.put, List.setIfInBounds_toArray, List.set_cons_zero, List.set_cons_succ]
  obtain ⟨g0, f0⟩ := C4.out.get 0 _ rfl
  obtain ⟨g1, f1⟩ := C4.out.get 1 _ rfl
  obtain ⟨g2, f2⟩ := C4.out.get 2 _ rfl
  obtain ⟨g3, f3⟩ := C4.out.get 3 _ rfl
  obtain ⟨g4, f4⟩ := C4.out.get 4 _ rfl
  have C6 := ((((C4.out.stored (j := 0) (by simp) (.int .i64 s0)).stored (j := 1) (by simp) (.int .i64 s1)).stored (j := 2) (by simp) (.int .i64 s2)).stored (j := 3) (by simp) (.int .i64 s3)).stored (j := 4) (by simp) (.int .i64 s4)
  have K6 := (((((Keep.refl (fun k => k = w.heap.size) w3).setCell (g := w.heap.size) (j := 0) (fun _ => rfl) (.int .i64 s0)).setCell (g := w.heap.size) (j := 1) (fun _ => rfl) (.int .i64 s1)).setCell (g := w.heap.size) (j := 2) (fun _ => rfl) (.int .i64 s2)).setCell (g := w.heap.size) (j := 3) (fun _ => rfl) (.int .i64 s3)).setCell (g := w.heap.size) (j := 4) (fun _ => rfl) (.int .i64 s4)
  have BF := hide (B2.out.trans (K6.below (Nat.le_of_lt z2.out) (fun k hk q => by omega)))
  obtain ⟨k0, _⟩ := C6.get 0 _ rfl
  obtain ⟨k1, _⟩ := C6.get 1 _ rfl
  obtain ⟨k2, _⟩ := C6.get 2 _ rfl
  obtain ⟨k3, _⟩ := C6.get 3 _ rfl
  obtain ⟨k4, _⟩ := C6.get 4 _ rfl
  have hS6 := hide (show ((((((w3.setCell ⟨w.heap.size, 0, none⟩ (.int .i64 s0)).setCell ⟨w.heap.size, 1, none⟩ (.int .i64 s1)).setCell ⟨w.heap.size, 2, none⟩ (.int .i64 s2)).setCell ⟨w.heap.size, 3, none⟩ (.int .i64 s3)).setCell ⟨w.heap.size, 4, none⟩ (.int .i64 s4)).cell? ⟨b, off, none⟩ = some (.int .u64 (n0 : Int)) ∧ (((((w3.setCell ⟨w.heap.size, 0, none⟩ (.int .i64 s0)).setCell ⟨w.heap.size, 1, none⟩ (.int .i64 s1)).setCell ⟨w.heap.size, 2, none⟩ (.int .i64 s2)).setCell ⟨w.heap.size, 3, none⟩ (.int .i64 s3)).setCell ⟨w.heap.size, 4, none⟩ (.int .i64 s4)).cell? ⟨b, off + 1, none⟩ = some (.int .u64 (n1 : Int)) ∧ (((((w3.setCell ⟨w.heap.size, 0, none⟩ (.int .i64 s0)).setCell ⟨w.heap.size, 1, none⟩ (.int .i64 s1)).setCell ⟨w.heap.size, 2, none⟩ (.int .i64 s2)).setCell ⟨w.heap.size, 3, none⟩ (.int .i64 s3)).setCell ⟨w.heap.size, 4, none⟩ (.int .i64 s4)).cell? ⟨b, off + 2, none⟩ = some (.int .u64 (n2 : Int)) ∧ (((((w3.setCell ⟨w.heap.size, 0, none⟩ (.int .i64 s0)).setCell ⟨w.heap.size, 1, none⟩ (.int .i64 s1)).setCell ⟨w.heap.size, 2, none⟩ (.int .i64 s2)).setCell ⟨w.heap.size, 3, none⟩ (.int .i64 s3)).setCell ⟨w.heap.size, 4, none⟩ (.int .i64 s4)).cell? ⟨b, off + 3, none⟩ = some (.int .u64 (n3 : Int)) ∧ (((((w3.setCell ⟨w.heap.size, 0, none⟩ (.int .i64 s0)).setCell ⟨w.heap.size, 1, none⟩ (.int .i64 s1)).setCell ⟨w.heap.size, 2, none⟩ (.int .i64 s2)).setCell ⟨w.heap.size, 3, none⟩ (.int .i64 s3)).setCell ⟨w.heap.size, 4, none⟩ (.int .i64 s4)).cell? ⟨b, off + 4, none⟩ = some (.int .u64 (n4 : Int))) from by
    obtain ⟨y0, y1, y2, y3, y4⟩ := hS
    have hlt : b < w3.heap.size := Nat.lt_trans hb z2.out
    have hne : ¬ b = w.heap.size := by omega
    exact ⟨(K6.cell (p := ⟨b, off, none⟩) hlt hne).trans y0, (K6.cell (p := ⟨b, off + 1, none⟩) hlt hne).trans y1, (K6.cell (p := ⟨b, off + 2, none⟩) hlt hne).trans y2, (K6.cell (p := ⟨b, off + 3, none⟩) hlt hne).trans y3, (K6.cell (p := ⟨b, off + 4, none⟩) hlt hne).trans y4⟩)
  clear C6 K6
  refine wpAnyH_ready (rs := [22]) (by kernel_rfl) (by simp) ?_
  refine AllReadyH.cons rfl (fun K hK => ?_) AllReadyH.nil
  go_simp
  go_wp2_with fail
  refine hK.out _ _ hS6.out (fun hS => ?_)
  clear hK K
  refine wpAnyH_done (by kernel_rfl) ?_ _
  go_wp2_with fail
  refine bodyPost_ret (v := .agg #[.int .i64 s0, .int .i64 s1, .int .i64 s2, .int .i64 s3, .int .i64 s4]) (by simp only [results, Tryd.results51]; simp [go_sem, k0, k1, k2, k3, k4]) rfl ?_
  exact ⟨rfl, BF.out⟩
end Go.Proofs.YtakjpljpdlhicaaDoor
