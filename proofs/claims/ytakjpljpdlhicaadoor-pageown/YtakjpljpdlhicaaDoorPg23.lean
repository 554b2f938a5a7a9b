import Derived.Test.YtakjpljpdlhicaaDoorPg22
namespace Go.Proofs.YtakjpljpdlhicaaDoor
open Go.RowKit Go.QK Go.Pg
set_option maxRecDepth 100000
theorem pow8 (i : Nat) (h : i < 8) : IntKind.u8.wrap ((2 : Int) ^ i) = ((2 ^ i : Nat) : Int) ∧ 2 ^ i < 256 := by
  have hc : i = 0 ∨ i = 1 ∨ i = 2 ∨ i = 3 ∨ i = 4 ∨ i = 5 ∨ i = 6 ∨ i = 7 := by omega
  rcases hc with rfl | rfl | rfl | rfl | rfl | rfl | rfl | rfl <;> exact ⟨by rw [IntKind.wrap_u8]; rfl, by decide⟩
set_option maxHeartbeats 16000000 in
theorem bits_any (p : PageM) (t : At) (bit number : Int) (w : World) (h : PageIn w p t) (ht : Tab w) :
    Calls Tryd.prog 4 #[pageV p t, .int .i64 bit, .int .i64 number] w fun e w' => e = .returned (.bool true) ∧ Below w.heap.size w w' := by
  have RG := fun w' (b : Below w.heap.size w w') => right_any p t w' (h.below b)
  have HT := hide ht
  obtain ⟨num, lsn, cs, gs⟩ := p
  obtain ⟨ta, tc, tb, td⟩ := t
  simp only [pageV] at *
  clear h ht
  obtain ⟨w2, hw2⟩ : ∃ w2, w2 = w.alloc (.cells #[.int .i64 num, .int .i64 lsn, .slice ta cs.length tc, .slice tb gs.length td] 34) := ⟨_, rfl⟩
  have b2 : Below w.heap.size w w2 := by rw [hw2]; exact alloc_below _ _
  have c2 : Cells w2 w.heap.size [.int .i64 num, .int .i64 lsn, .slice ta cs.length tc, .slice tb gs.length td] := by rw [hw2]; exact Cells.new w _ _
  have HW := hide hw2
  have B2 := hide b2
  clear hw2 b2
  go_enter Tryd.func4, Tryd.ntmps4
  go_upto_region 1 with fail
  rw [← HW.out]
  go_wp2_with fail
  refine (first_any w2 (HT.out.below B2.out)).mono ?_
  rintro e w3 ⟨rfl, b3⟩
  have c3 := c2.below b3
  have BW3 := hide (bnext B2.out b3 (Nat.le_refl _))
  obtain ⟨g0, x0⟩ := c3.get 0 _ rfl
  obtain ⟨g1, x1⟩ := c3.get 1 _ rfl
  obtain ⟨g2, x2⟩ := c3.get 2 _ rfl
  obtain ⟨g3, x3⟩ := c3.get 3 _ rfl
  clear c2 c3 b3 HW B2
  go_wp2_with fail
  refine (RG w3 BW3.out).mono ?_
  rintro e w4 ⟨q, v, rfl, hck, hfit, ho, b4⟩
  obtain ⟨⟨a, c, b, d⟩, rfl, la, lb, -, -⟩ := PageOut.open_ ho
  have bw4 := bnext BW3.out b4 (Nat.le_refl _)
  have hlen := encB_length hck
  have hbs := encB_bytes q
  have FR := fun k hk n => flip_refused hck k hk n
  have EN := fun w' (bb : Below w4.heap.size w4 w') => encode_ok q ⟨a, c, b, d⟩ w' ⟨Lies.below la bb, Lies.below lb bb, hfit⟩ (HT.out.below (bnext bw4 bb (Nat.le_refl _))) hck
  obtain ⟨qn, ql, qc, qg⟩ := q
  simp only [pageV] at EN ⊢
  obtain ⟨EB, hEB⟩ : ∃ e, e = encB ⟨qn, ql, qc, qg⟩ := ⟨_, rfl⟩
  simp only [← hEB] at hlen hbs FR EN
  have HFR := hide FR
  have HLE := hide hlen
  have HBS := hide hbs
  have BW4 := hide bw4
  clear hck hfit ho la lb b4 bw4 hlen hbs FR hEB RG g0 g1 g2 g3 x0 x1 x2 x3
  go_wp2_with fail
  refine (EN _ (alloc_below _ _)).mono ?_
  rintro e w5 ⟨g, rfl, hg, o5, b5⟩
  have c5 := (Cells.new w4 #[.int .i64 qn, .int .i64 ql, .slice a qc.length c, .slice b qg.length d] 27).below b5
  have bw5 := bnext (bnext BW4.out (alloc_below w4 _) (Nat.le_refl _)) b5 (Nat.le_refl _)
  simp only [World.size_alloc] at hg
  have HG := hide hg
  have O5 := hide o5
  have C5 := hide c5
  have BW5 := hide bw5
  obtain ⟨P, hP⟩ : ∃ P, P = w4.heap.size := ⟨_, rfl⟩
  have HP := hide hP
  have z4 := hide BW4.out.size
  clear hg o5 c5 bw5 b5 hP EN
  have m1 : IntKind.i64.wrap 8192 = 8192 := by decide
  obtain ⟨r, hr⟩ : ∃ r, r = bit.tmod 8192 := ⟨_, rfl⟩
  have hrb : -8192 < r ∧ r < 8192 := by
    rw [hr, Int.tmod_eq_emod]
    have r0 := Int.emod_nonneg bit (show (8192 : Int) ≠ 0 by decide)
    have r1 := Int.emod_lt_of_pos bit (show (0 : Int) < 8192 by decide)
    split
    · omega
    · have : (Int.natAbs 8192 : Int) = 8192 := rfl
      omega
  have hmod : bit.tmod 8192 = r := hr.symm
  clear hr
  by_cases hneg : r < 0
  · have hd : decide (r < 0) = true := by simp [hneg]
    obtain ⟨kb, hkb⟩ : ∃ kb : Nat, r + 8192 = (kb : Int) := ⟨(r + 8192).toNat, by omega⟩
    have hk8 : kb < 8192 := by omega
    have m2 : IntKind.i64.wrap (r + 8192) = (kb : Int) := by rw [IntKind.wrap_i64]; omega
    obtain ⟨j, hj⟩ : ∃ j, j = kb / 8 := ⟨_, rfl⟩
    obtain ⟨i, hi⟩ : ∃ i, i = kb % 8 := ⟨_, rfl⟩
    have hj1 : j < 1024 := by omega
    have hi8 : i < 8 := by omega
    have q1 : (kb : Int).tdiv 8 = (j : Int) := by rw [Int.tdiv_eq_ediv_of_nonneg (by omega)]; omega
    have q2 : IntKind.i64.wrap (j : Int) = (j : Int) := by rw [IntKind.wrap_i64]; omega
    have q3 : (kb : Int).tmod 8 = (i : Int) := by rw [Int.tmod_eq_emod_of_nonneg (by omega)]; omega
    have q3b : IntKind.i64.wrap (i : Int) = (i : Int) := by rw [IntKind.wrap_i64]; omega
    obtain ⟨sh, pw8⟩ := pow8 i hi8
    have hmin : min i 8 = i := by omega
    obtain ⟨pw, hpw⟩ : ∃ pw : Nat, pw = 2 ^ i := ⟨_, rfl⟩
    rw [← hpw] at sh pw8
    have sh2 : (2 : Int) ^ i % 256 = (pw : Int) := by rw [← sh, IntKind.wrap_u8]
    obtain ⟨x, hx⟩ : ∃ x, x = EB.getD j 0 := ⟨_, rfl⟩
    have hx8 : x < 256 := by rw [hx]; exact HBS.out.get j
    obtain ⟨y, hy⟩ : ∃ y, y = x ^^^ pw := ⟨_, rfl⟩
    have q4 : bits .xor .u8 (x : Int) (pw : Int) = (y : Int) := by rw [xor_u8 x pw hx8 pw8, hy]
    have cellx : w5.drew.cell? ⟨g, j, none⟩ = some (.int .u8 (x : Int)) ∧ w5.drew.frozen? ⟨g, j, none⟩ = false := by
      obtain ⟨b1, off1, hab, _, hcell⟩ := Bytes.at (Owns.seen_at O5.out) (i := j) (by rw [HLE.out]; exact hj1)
      simp only [Option.some.injEq, Addr.mk.injEq] at hab
      obtain ⟨rfl, rfl, _⟩ := hab
      rw [Nat.zero_add, ← hx] at hcell
      exact ⟨hcell, Owns.frozen O5.out j⟩
    have hfl : EB.set j y = Pg.flip EB kb := by unfold Pg.flip; rw [hy, hx, hpw, hj, hi]
    have o6 : OwnB (w5.drew.setCell ⟨g, j, none⟩ (.int .u8 (y : Int))) (w4.heap.size + 1) (.slice (some ⟨g, 0, none⟩) 1024 1024) (Pg.flip EB kb) := by
      have q := Owns.stored (Owns.below O5.out (Below.refl _ _).drew) j (y : Int)
      rw [← ints_set, hfl] at q
      simpa [World.size_alloc] using q
    have K6 : Keep (fun k => k = g) w5 (w5.drew.setCell ⟨g, j, none⟩ (.int .u8 (y : Int))) := (Keep.of_below (S := fun k => k = g) (Below.refl _ w5).drew).setCell (g := g) (j := j) (fun _ => rfl) _
    have c6 : Cells (w5.drew.setCell ⟨g, j, none⟩ (.int .u8 (y : Int))) P [.int .i64 qn, .int .i64 ql, .slice a qc.length c, .slice b qg.length d] := by
      rw [HP.out]; exact C5.out.keep K6 (by have := HG.out; omega)
    have bw6 : Below w.heap.size w (w5.drew.setCell ⟨g, j, none⟩ (.int .u8 (y : Int))) := BW5.out.trans (K6.below BW5.out.size (fun k hk q => by have := HG.out; have := z4.out; omega))
    have O6 := hide o6
    have C6 := hide c6
    have BW6 := hide bw6
    have CX := hide cellx
    have F1 := hide (HFR.out kb (by omega) qn)
    have F2 := hide (HFR.out kb (by omega) number)
    have FL := hide (show (Pg.flip EB kb).length = 1024 by rw [flip_length]; exact HLE.out)
    have FB := hide (flip_bytes HBS.out kb (by rw [HLE.out]; omega))
    have HKB := hide hk8
    have HJ1 := hide hj1
    clear o6 c6 bw6 K6 cellx hfl hx hx8 hy hpw pw8 hj hi hi8 hj1 hk8
    generalize Pg.flip EB kb = FE at *
    go_upto_region 10 with fail
    refine wp_region_held_drew (S := fun _ => True) (by kernel_rfl) trivial (fun hS => ?_)
    rw [← HP.out]
    have hjlt : j < 1024 := HJ1.out
    have hjlt2 : (j : Int) < 1024 := by omega
    have hjn : ¬ (j : Int) < 0 := by omega
    have hin : ¬ (i : Int) < 0 := by omega
    refine take_at 0 (some 42) (v := ?_) rfl rfl (by kernel_rfl) (by kernel_rfl) (by kernel_rfl) (fun _ _ _ h => h) ⟨by rfl, ?_⟩ hS ?_
    rotate_left
    · intro wq hSw; go_simp; try rfl
    simp only [Act.put, List.setIfInBounds_toArray, List.set_cons_zero, List.set_cons_succ]
    refine take_at 1 (some 43) (v := ?_) rfl rfl (by kernel_rfl) (by kernel_rfl) (by kernel_rfl) (fun _ _ _ h => h) ⟨by rfl, ?_⟩ hS ?_
    rotate_left
    · intro wq hSw; go_simp; try rfl
    simp only [Act.put, List.setIfInBounds_toArray, List.set_cons_zero, List.set_cons_succ]
    refine take_at 2 (some 44) (v := ?_) rfl rfl (by kernel_rfl) (by kernel_rfl) (by kernel_rfl) (fun _ _ _ h => h) ⟨by rfl, ?_⟩ hS ?_
    rotate_left
    · intro wq hSw; go_simp; try rfl
    simp only [Act.put, List.setIfInBounds_toArray, List.set_cons_zero, List.set_cons_succ]
    refine take_at 3 (some 45) (v := ?_) rfl rfl (by kernel_rfl) (by kernel_rfl) (by kernel_rfl) (fun _ _ _ h => h) ⟨by rfl, ?_⟩ hS ?_
    rotate_left
    · intro wq hSw; go_simp; try rfl
    simp only [Act.put, List.setIfInBounds_toArray, List.set_cons_zero, List.set_cons_succ]
    refine take_at 4 (some 46) (v := ?_) rfl rfl (by kernel_rfl) (by kernel_rfl) (by kernel_rfl) (fun _ _ _ h => h) ⟨by rfl, ?_⟩ hS ?_
    rotate_left
    · intro wq hSw; go_simp; try rfl
    simp only [Act.put, List.setIfInBounds_toArray, List.set_cons_zero, List.set_cons_succ]
    refine take_at 5 (some 47) (v := ?_) rfl rfl (by kernel_rfl) (by kernel_rfl) (by kernel_rfl) (fun _ _ _ h => h) ⟨by rfl, ?_⟩ hS ?_
    rotate_left
    · intro wq hSw; go_simp; try rfl
    simp only [Act.put, List.setIfInBounds_toArray, List.set_cons_zero, List.set_cons_succ]
    refine take_at 6 (some 48) (v := ?_) rfl rfl (by kernel_rfl) (by kernel_rfl) (by kernel_rfl) (fun _ _ _ h => h) ⟨by rfl, ?_⟩ hS ?_
    rotate_left
    · intro wq hSw; go_simp; try rfl
    simp only [Act.put, List.setIfInBounds_toArray, List.set_cons_zero, List.set_cons_succ]
    refine take_at 8 (some 50) (v := ?_) rfl rfl (by kernel_rfl) (by kernel_rfl) (by kernel_rfl) (fun _ _ _ h => h) ⟨by rfl, ?_⟩ hS ?_
    rotate_left
    · intro wq hSw; go_simp; try rfl
    simp only [Act.put, List.setIfInBounds_toArray, List.set_cons_zero, List.set_cons_succ]
    refine take_at 9 (some 51) (v := ?_) rfl rfl (by kernel_rfl) (by kernel_rfl) (by kernel_rfl) (fun _ _ _ h => h) ⟨by rfl, ?_⟩ hS ?_
    rotate_left
    · intro wq hSw; go_simp; try rfl
    simp only [Act.put, List.setIfInBounds_toArray, List.set_cons_zero, List.set_cons_succ]
    refine take_at 10 (some 52) (v := ?_) rfl rfl (by kernel_rfl) (by kernel_rfl) (by kernel_rfl) (fun _ _ _ h => h) ⟨by rfl, ?_⟩ hS ?_
    rotate_left
    · intro wq hSw; go_simp; try rfl
    simp only [Act.put, List.setIfInBounds_toArray, List.set_cons_zero, List.set_cons_succ]
    obtain ⟨cx, cf⟩ := CX.out
    refine wpAnyH_ready (rs := [7]) (by kernel_rfl) (by simp) ?_
    refine AllReadyH.cons rfl (fun K hK => ?_) AllReadyH.nil
    go_simp
    go_wp2_with fail
    refine hK.out _ _ trivial (fun hS => ?_)
    clear hK K
    (try simp only [Act.put, List.setIfInBounds_toArray, List.set_cons_zero, List.set_cons_succ])
    refine take_at 11 (some 53) (v := ?_) rfl rfl (by kernel_rfl) (by kernel_rfl) (by kernel_rfl) (fun _ _ _ h => h) ⟨by rfl, ?_⟩ hS ?_
    rotate_left
    · intro wq hSw; go_simp; try rfl
    simp only [Act.put, List.setIfInBounds_toArray, List.set_cons_zero, List.set_cons_succ]
    refine take_at 12 (some 54) (v := ?_) rfl rfl (by kernel_rfl) (by kernel_rfl) (by kernel_rfl) (fun _ _ _ h => h) ⟨by rfl, ?_⟩ hS ?_
    rotate_left
    · intro wq hSw; go_simp; try rfl
    simp only [Act.put, List.setIfInBounds_toArray, List.set_cons_zero, List.set_cons_succ]
    refine wpAnyH_ready (rs := [13]) (by kernel_rfl) (by simp) ?_
    refine AllReadyH.cons rfl (fun K hK => ?_) AllReadyH.nil
    go_simp
    go_wp2_with fail
    refine hK.out _ _ trivial (fun hS => ?_)
    clear hK K
    (try simp only [Act.put, List.setIfInBounds_toArray, List.set_cons_zero, List.set_cons_succ])
    refine wpAnyH_done (by kernel_rfl) ?_ _
    go_upto_region 11 with fail
    refine named (P := Code.wp _ _ _ _) ?_
    intro w6 hw6
    have e6 : w6 = w5.drew.setCell ⟨g, j, none⟩ (.int .u8 (y : Int)) := by rw [hw6]; rfl
    rw [← e6] at O6 C6 BW6
    clear e6 hw6 cx cf q1 q2 q3 q3b sh sh2 hmin q4 hjlt hjlt2 hjn hin CX
    obtain ⟨p0', px0⟩ := C6.out.get 0 _ rfl
    have D1 := decode_any (some ⟨g, 0, none⟩) 1024 FE qn w6 (Owns.seen_at O6.out) FB.out (HT.out.below BW6.out) (by rw [FL.out]; exact Nat.le_refl _)
    rw [FL.out] at D1
    obtain ⟨E1, hE1⟩ : ∃ e, e = decE FE qn := ⟨_, rfl⟩
    rw [← hE1] at D1
    have n1 : (E1 != 0) = true := by rw [hE1]; simpa using F1.out
    clear hE1
    go_wp2_with fail
    refine D1.mono ?_
    rintro e w7 ⟨v7, rfl, ho7, b7⟩
    obtain ⟨⟨a7, c7, d7, e7⟩, rfl, -, -, -, -⟩ := PageOut.open_ ho7
    have o7 := Owns.below O6.out b7
    have bw7 := bnext BW6.out b7 (Nat.le_refl _)
    generalize decP FE qn = DP7 at *
    obtain ⟨z0, z1, zc, zg⟩ := DP7
    simp only [pageV]
    have D2 := fun w' (bb : Below w7.heap.size w7 w') => decode_any (some ⟨g, 0, none⟩) 1024 FE number w' (Owns.seen_at (Owns.below o7 bb)) FB.out (HT.out.below (bnext bw7 bb (Nat.le_refl _))) (by rw [FL.out]; exact Nat.le_refl _)
    rw [FL.out] at D2
    obtain ⟨E2, hE2⟩ : ∃ e, e = decE FE number := ⟨_, rfl⟩
    rw [← hE2] at D2
    have n2 : (E2 != 0) = true := by rw [hE2]; simpa using F2.out
    have BW7 := hide bw7
    clear hE2 D1 ho7 b7 o7 bw7 p0' px0
    go_wp2_with fail
    refine (D2 _ (alloc_below _ _)).mono ?_
    rintro e w9 ⟨v9, rfl, ho9, b9⟩
    obtain ⟨⟨a9, c9, d9, e9⟩, rfl, -, -, -, -⟩ := PageOut.open_ ho9
    generalize decP FE number = DP9 at *
    obtain ⟨y0, y1, yc, yg⟩ := DP9
    simp only [pageV]
    have BW9 := hide (bnext (bnext BW7.out (alloc_below w7 _) (Nat.le_refl _)) b9 (Nat.le_refl _))
    clear D2 ho9 b9
    go_wp2_with fail
    go_ret
    exact ⟨by simp, bnext BW9.out (alloc_below _ _) (Nat.le_refl _)⟩
  · have hd : decide (r < 0) = false := by simp [hneg]
    obtain ⟨kb, hkb⟩ : ∃ kb : Nat, r = (kb : Int) := ⟨r.toNat, by omega⟩
    have hk8 : kb < 8192 := by omega
    subst hkb
    obtain ⟨j, hj⟩ : ∃ j, j = kb / 8 := ⟨_, rfl⟩
    obtain ⟨i, hi⟩ : ∃ i, i = kb % 8 := ⟨_, rfl⟩
    have hj1 : j < 1024 := by omega
    have hi8 : i < 8 := by omega
    have q1 : (kb : Int).tdiv 8 = (j : Int) := by rw [Int.tdiv_eq_ediv_of_nonneg (by omega)]; omega
    have q2 : IntKind.i64.wrap (j : Int) = (j : Int) := by rw [IntKind.wrap_i64]; omega
    have q3 : (kb : Int).tmod 8 = (i : Int) := by rw [Int.tmod_eq_emod_of_nonneg (by omega)]; omega
    have q3b : IntKind.i64.wrap (i : Int) = (i : Int) := by rw [IntKind.wrap_i64]; omega
    obtain ⟨sh, pw8⟩ := pow8 i hi8
    have hmin : min i 8 = i := by omega
    obtain ⟨pw, hpw⟩ : ∃ pw : Nat, pw = 2 ^ i := ⟨_, rfl⟩
    rw [← hpw] at sh pw8
    have sh2 : (2 : Int) ^ i % 256 = (pw : Int) := by rw [← sh, IntKind.wrap_u8]
    obtain ⟨x, hx⟩ : ∃ x, x = EB.getD j 0 := ⟨_, rfl⟩
    have hx8 : x < 256 := by rw [hx]; exact HBS.out.get j
    obtain ⟨y, hy⟩ : ∃ y, y = x ^^^ pw := ⟨_, rfl⟩
    have q4 : bits .xor .u8 (x : Int) (pw : Int) = (y : Int) := by rw [xor_u8 x pw hx8 pw8, hy]
    have cellx : w5.drew.cell? ⟨g, j, none⟩ = some (.int .u8 (x : Int)) ∧ w5.drew.frozen? ⟨g, j, none⟩ = false := by
      obtain ⟨b1, off1, hab, _, hcell⟩ := Bytes.at (Owns.seen_at O5.out) (i := j) (by rw [HLE.out]; exact hj1)
      simp only [Option.some.injEq, Addr.mk.injEq] at hab
      obtain ⟨rfl, rfl, _⟩ := hab
      rw [Nat.zero_add, ← hx] at hcell
      exact ⟨hcell, Owns.frozen O5.out j⟩
    have hfl : EB.set j y = Pg.flip EB kb := by unfold Pg.flip; rw [hy, hx, hpw, hj, hi]
    have o6 : OwnB (w5.drew.setCell ⟨g, j, none⟩ (.int .u8 (y : Int))) (w4.heap.size + 1) (.slice (some ⟨g, 0, none⟩) 1024 1024) (Pg.flip EB kb) := by
      have q := Owns.stored (Owns.below O5.out (Below.refl _ _).drew) j (y : Int)
      rw [← ints_set, hfl] at q
      simpa [World.size_alloc] using q
    have K6 : Keep (fun k => k = g) w5 (w5.drew.setCell ⟨g, j, none⟩ (.int .u8 (y : Int))) := (Keep.of_below (S := fun k => k = g) (Below.refl _ w5).drew).setCell (g := g) (j := j) (fun _ => rfl) _
    have c6 : Cells (w5.drew.setCell ⟨g, j, none⟩ (.int .u8 (y : Int))) P [.int .i64 qn, .int .i64 ql, .slice a qc.length c, .slice b qg.length d] := by
      rw [HP.out]; exact C5.out.keep K6 (by have := HG.out; omega)
    have bw6 : Below w.heap.size w (w5.drew.setCell ⟨g, j, none⟩ (.int .u8 (y : Int))) := BW5.out.trans (K6.below BW5.out.size (fun k hk q => by have := HG.out; have := z4.out; omega))
    have O6 := hide o6
    have C6 := hide c6
    have BW6 := hide bw6
    have CX := hide cellx
    have F1 := hide (HFR.out kb (by omega) qn)
    have F2 := hide (HFR.out kb (by omega) number)
    have FL := hide (show (Pg.flip EB kb).length = 1024 by rw [flip_length]; exact HLE.out)
    have FB := hide (flip_bytes HBS.out kb (by rw [HLE.out]; omega))
    have HKB := hide hk8
    have HJ1 := hide hj1
    clear o6 c6 bw6 K6 cellx hfl hx hx8 hy hpw pw8 hj hi hi8 hj1 hk8
    generalize Pg.flip EB kb = FE at *
    go_upto_region 10 with fail
    refine wp_region_held_drew (S := fun _ => True) (by kernel_rfl) trivial (fun hS => ?_)
    rw [← HP.out]
    have hjlt : j < 1024 := HJ1.out
    have hjlt2 : (j : Int) < 1024 := by omega
    have hjn : ¬ (j : Int) < 0 := by omega
    have hin : ¬ (i : Int) < 0 := by omega
    refine take_at 0 (some 42) (v := ?_) rfl rfl (by kernel_rfl) (by kernel_rfl) (by kernel_rfl) (fun _ _ _ h => h) ⟨by rfl, ?_⟩ hS ?_
    rotate_left
    · intro wq hSw; go_simp; try rfl
    simp only [Act.put, List.setIfInBounds_toArray, List.set_cons_zero, List.set_cons_succ]
    refine take_at 1 (some 43) (v := ?_) rfl rfl (by kernel_rfl) (by kernel_rfl) (by kernel_rfl) (fun _ _ _ h => h) ⟨by rfl, ?_⟩ hS ?_
    rotate_left
    · intro wq hSw; go_simp; try rfl
    simp only [Act.put, List.setIfInBounds_toArray, List.set_cons_zero, List.set_cons_succ]
    refine take_at 2 (some 44) (v := ?_) rfl rfl (by kernel_rfl) (by kernel_rfl) (by kernel_rfl) (fun _ _ _ h => h) ⟨by rfl, ?_⟩ hS ?_
    rotate_left
    · intro wq hSw; go_simp; try rfl
    simp only [Act.put, List.setIfInBounds_toArray, List.set_cons_zero, List.set_cons_succ]
    refine take_at 3 (some 45) (v := ?_) rfl rfl (by kernel_rfl) (by kernel_rfl) (by kernel_rfl) (fun _ _ _ h => h) ⟨by rfl, ?_⟩ hS ?_
    rotate_left
    · intro wq hSw; go_simp; try rfl
    simp only [Act.put, List.setIfInBounds_toArray, List.set_cons_zero, List.set_cons_succ]
    refine take_at 4 (some 46) (v := ?_) rfl rfl (by kernel_rfl) (by kernel_rfl) (by kernel_rfl) (fun _ _ _ h => h) ⟨by rfl, ?_⟩ hS ?_
    rotate_left
    · intro wq hSw; go_simp; try rfl
    simp only [Act.put, List.setIfInBounds_toArray, List.set_cons_zero, List.set_cons_succ]
    refine take_at 5 (some 47) (v := ?_) rfl rfl (by kernel_rfl) (by kernel_rfl) (by kernel_rfl) (fun _ _ _ h => h) ⟨by rfl, ?_⟩ hS ?_
    rotate_left
    · intro wq hSw; go_simp; try rfl
    simp only [Act.put, List.setIfInBounds_toArray, List.set_cons_zero, List.set_cons_succ]
    refine take_at 6 (some 48) (v := ?_) rfl rfl (by kernel_rfl) (by kernel_rfl) (by kernel_rfl) (fun _ _ _ h => h) ⟨by rfl, ?_⟩ hS ?_
    rotate_left
    · intro wq hSw; go_simp; try rfl
    simp only [Act.put, List.setIfInBounds_toArray, List.set_cons_zero, List.set_cons_succ]
    refine take_at 8 (some 50) (v := ?_) rfl rfl (by kernel_rfl) (by kernel_rfl) (by kernel_rfl) (fun _ _ _ h => h) ⟨by rfl, ?_⟩ hS ?_
    rotate_left
    · intro wq hSw; go_simp; try rfl
    simp only [Act.put, List.setIfInBounds_toArray, List.set_cons_zero, List.set_cons_succ]
    refine take_at 9 (some 51) (v := ?_) rfl rfl (by kernel_rfl) (by kernel_rfl) (by kernel_rfl) (fun _ _ _ h => h) ⟨by rfl, ?_⟩ hS ?_
    rotate_left
    · intro wq hSw; go_simp; try rfl
    simp only [Act.put, List.setIfInBounds_toArray, List.set_cons_zero, List.set_cons_succ]
    refine take_at 10 (some 52) (v := ?_) rfl rfl (by kernel_rfl) (by kernel_rfl) (by kernel_rfl) (fun _ _ _ h => h) ⟨by rfl, ?_⟩ hS ?_
    rotate_left
    · intro wq hSw; go_simp; try rfl
    simp only [Act.put, List.setIfInBounds_toArray, List.set_cons_zero, List.set_cons_succ]
    obtain ⟨cx, cf⟩ := CX.out
    refine wpAnyH_ready (rs := [7]) (by kernel_rfl) (by simp) ?_
    refine AllReadyH.cons rfl (fun K hK => ?_) AllReadyH.nil
    go_simp
    go_wp2_with fail
    refine hK.out _ _ trivial (fun hS => ?_)
    clear hK K
    (try simp only [Act.put, List.setIfInBounds_toArray, List.set_cons_zero, List.set_cons_succ])
    refine take_at 11 (some 53) (v := ?_) rfl rfl (by kernel_rfl) (by kernel_rfl) (by kernel_rfl) (fun _ _ _ h => h) ⟨by rfl, ?_⟩ hS ?_
    rotate_left
    · intro wq hSw; go_simp; try rfl
    simp only [Act.put, List.setIfInBounds_toArray, List.set_cons_zero, List.set_cons_succ]
    refine take_at 12 (some 54) (v := ?_) rfl rfl (by kernel_rfl) (by kernel_rfl) (by kernel_rfl) (fun _ _ _ h => h) ⟨by rfl, ?_⟩ hS ?_
    rotate_left
    · intro wq hSw; go_simp; try rfl
    simp only [Act.put, List.setIfInBounds_toArray, List.set_cons_zero, List.set_cons_succ]
    refine wpAnyH_ready (rs := [13]) (by kernel_rfl) (by simp) ?_
    refine AllReadyH.cons rfl (fun K hK => ?_) AllReadyH.nil
    go_simp
    go_wp2_with fail
    refine hK.out _ _ trivial (fun hS => ?_)
    clear hK K
    (try simp only [Act.put, List.setIfInBounds_toArray, List.set_cons_zero, List.set_cons_succ])
    refine wpAnyH_done (by kernel_rfl) ?_ _
    go_upto_region 11 with fail
    refine named (P := Code.wp _ _ _ _) ?_
    intro w6 hw6
    have e6 : w6 = w5.drew.setCell ⟨g, j, none⟩ (.int .u8 (y : Int)) := by rw [hw6]; rfl
    rw [← e6] at O6 C6 BW6
    clear e6 hw6 cx cf q1 q2 q3 q3b sh sh2 hmin q4 hjlt hjlt2 hjn hin CX
    obtain ⟨p0', px0⟩ := C6.out.get 0 _ rfl
    have D1 := decode_any (some ⟨g, 0, none⟩) 1024 FE qn w6 (Owns.seen_at O6.out) FB.out (HT.out.below BW6.out) (by rw [FL.out]; exact Nat.le_refl _)
    rw [FL.out] at D1
    obtain ⟨E1, hE1⟩ : ∃ e, e = decE FE qn := ⟨_, rfl⟩
    rw [← hE1] at D1
    have n1 : (E1 != 0) = true := by rw [hE1]; simpa using F1.out
    clear hE1
    go_wp2_with fail
    refine D1.mono ?_
    rintro e w7 ⟨v7, rfl, ho7, b7⟩
    obtain ⟨⟨a7, c7, d7, e7⟩, rfl, -, -, -, -⟩ := PageOut.open_ ho7
    have o7 := Owns.below O6.out b7
    have bw7 := bnext BW6.out b7 (Nat.le_refl _)
    generalize decP FE qn = DP7 at *
    obtain ⟨z0, z1, zc, zg⟩ := DP7
    simp only [pageV]
    have D2 := fun w' (bb : Below w7.heap.size w7 w') => decode_any (some ⟨g, 0, none⟩) 1024 FE number w' (Owns.seen_at (Owns.below o7 bb)) FB.out (HT.out.below (bnext bw7 bb (Nat.le_refl _))) (by rw [FL.out]; exact Nat.le_refl _)
    rw [FL.out] at D2
    obtain ⟨E2, hE2⟩ : ∃ e, e = decE FE number := ⟨_, rfl⟩
    rw [← hE2] at D2
    have n2 : (E2 != 0) = true := by rw [hE2]; simpa using F2.out
    have BW7 := hide bw7
    clear hE2 D1 ho7 b7 o7 bw7 p0' px0
    go_wp2_with fail
    refine (D2 _ (alloc_below _ _)).mono ?_
    rintro e w9 ⟨v9, rfl, ho9, b9⟩
    obtain ⟨⟨a9, c9, d9, e9⟩, rfl, -, -, -, -⟩ := PageOut.open_ ho9
    generalize decP FE number = DP9 at *
    obtain ⟨y0, y1, yc, yg⟩ := DP9
    simp only [pageV]
    have BW9 := hide (bnext (bnext BW7.out (alloc_below w7 _) (Nat.le_refl _)) b9 (Nat.le_refl _))
    clear D2 ho9 b9
    go_wp2_with fail
    go_ret
    exact ⟨by simp, bnext BW9.out (alloc_below _ _) (Nat.le_refl _)⟩
end Go.Proofs.YtakjpljpdlhicaaDoor
