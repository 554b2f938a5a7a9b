import Derived.Test.YtehbpmibllpkhaaGreatDoorUdS
import Derived.Great.BuildSlice
set_option linter.all false
namespace Go.Proofs.YtehbpmibllpkhaaGreatDoor
open Go.RowKit Go.QK Go.Maps Go.QM Go.QU
set_option maxRecDepth 100000
theorem ret_int {a : Int} (h : 0 ≤ a) : Ending.returned (.int .i64 a) = Ending.returned (.int .i64 (a.toNat : Int)) := by rw [Int.toNat_of_nonneg h]
theorem brought52_any (x : Int) (n : Nat) (w : World) (hx : I64 x) (h1 : 1 ≤ n) (h2 : n ≤ 1000000) : Calls Tryz.prog 52 #[.int .i64 x, .int .i64 (n : Int)] w fun e w' => ∃ j : Nat, e = .returned (.int .i64 (j : Int)) ∧ j < n ∧ w = w' := by
  have b1 := Int.tmod_lt_of_pos x (show (0 : Int) < (n : Int) by omega)
  have b2 := Int.lt_tmod_of_pos x (show (0 : Int) < (n : Int) by omega)
  have h0 : ((n : Int) == 0) = false := by simp; omega
  have hn0 : ¬ (n : Int) = 0 := by omega
  have hw : wrap64 (Int.tmod x n) = Int.tmod x n := wrapI (by unfold I64; omega)
  have HH := hide (And.intro b1 b2)
  clear b1 b2
  go_enter Tryz.func52, Tryz.ntmps52
  go_upto_region 2 with fail
  have b1 := HH.out.1
  have b2 := HH.out.2
  clear HH
  generalize Int.tmod x (n : Int) = r at *
  by_cases q : r < 0
  · have e1 : decide (r < 0) = true := by simpa using q
    have hw2 : wrap64 (r + n) = r + n := wrapI (by unfold I64; omega)
    go_wp2_with fail
    go_ret
    exact ⟨(r + n).toNat, ret_int (by omega), by omega, rfl⟩
  · have e1 : decide (r < 0) = false := by simpa using q
    go_wp2_with fail
    go_ret
    exact ⟨r.toNat, ret_int (by omega), by omega, rfl⟩
theorem brought37_any (x : Int) (n : Nat) (w : World) (hx : I64 x) (h1 : 1 ≤ n) (h2 : n ≤ 1000000) : Calls Tryz.prog 37 #[.int .i64 x, .int .i64 (n : Int)] w fun e w' => ∃ j : Nat, e = .returned (.int .i64 (j : Int)) ∧ j < n ∧ w = w' := by
  have b1 := Int.tmod_lt_of_pos x (show (0 : Int) < (n : Int) by omega)
  have b2 := Int.lt_tmod_of_pos x (show (0 : Int) < (n : Int) by omega)
  have h0 : ((n : Int) == 0) = false := by simp; omega
  have hn0 : ¬ (n : Int) = 0 := by omega
  have hw : wrap64 (Int.tmod x n) = Int.tmod x n := wrapI (by unfold I64; omega)
  have HH := hide (And.intro b1 b2)
  clear b1 b2
  go_enter Tryz.func37, Tryz.ntmps37
  go_upto_region 2 with fail
  have b1 := HH.out.1
  have b2 := HH.out.2
  clear HH
  generalize Int.tmod x (n : Int) = r at *
  by_cases q : r < 0
  · have e1 : decide (r < 0) = true := by simpa using q
    have hw2 : wrap64 (r + n) = r + n := wrapI (by unfold I64; omega)
    go_wp2_with fail
    go_ret
    exact ⟨(r + n).toNat, ret_int (by omega), by omega, rfl⟩
  · have e1 : decide (r < 0) = false := by simpa using q
    go_wp2_with fail
    go_ret
    exact ⟨r.toNat, ret_int (by omega), by omega, rfl⟩
theorem wp_b22 {o : Oper} {a : Act} {w : World} {K : Act → World → Prop} {Q : Exit → Act → World → Prop} {x : Operand} {r : RZ} (ho : o.op = .buildSlice 22 1 #[(0, x)]) (hx : a.eval x = .agg (rzA r))
    (h : K (a.put o.dst (.slice (some ⟨w.heap.size, 0, none⟩) 1 1)) (w.alloc (.cells (rzA r) 53))) : o.wp Tryz.prog a w K Q := by
  obtain ⟨i0, hi, h0, h2, h3⟩ := info_of info53
  refine wp_buildSlice 22 53 1 #[(0, x)] ho (rzA r) i0 _ Tryz.underlying22 hi h0 (by rw [h2]; decide) (by rw [h2]; decide) ?_ h
  rw [h2]
  simp only [List.map_toArray, List.map_cons, List.map_nil, hx]
  exact fill53 r
/-- What a record is once its number stands in it. -/
def numd (r : RZ) (z : Int) : RZ := { r with lsn := z }
set_option maxHeartbeats 8000000 in
theorem writes_any {w : World} {B sb : Nat} {s : SV} (h : Sty w B sb s) (r : RZ) (hr : I64 r.delta ∧ I64 r.id) (hl : s.R.length ≤ 1000) (hB : B ≤ w.heap.size) :
    Calls Tryz.prog 54 #[ptr sb, .agg (rzA r)] w fun e w' => ∃ (z : Int) (v' : Value), e = .returned (.int .i64 z) ∧ Sty w' B sb { s with vR := v', R := s.R ++ [numd r z] } ∧ Keep (fun j => j = sb ∨ s.vR.ownBlock = some j) w w' := by
  obtain ⟨n, hn⟩ : ∃ n, n = s.R.length := ⟨_, rfl⟩
  obtain ⟨aR, cR, eR, -⟩ := GRow.lies h.r
  rw [← hn] at eR hl
  have HN := hide hn
  have H := hide h
  have ew : IntKind.i64.wrap ((n : Int) + 1) = (n : Int) + 1 := by rw [IntKind.wrap_i64]; omega
  have ew2 : wrap64 ((n : Int) + 1) = (n : Int) + 1 := wrapI (by unfold I64; omega)
  obtain ⟨w1, hw1⟩ : ∃ z, z = w.alloc (.cells (rzA r) 53) := ⟨_, rfl⟩
  obtain ⟨X, hX⟩ : ∃ z, z = w.heap.size := ⟨_, rfl⟩
  have B1 := hide (show Below w.heap.size w w1 by rw [hw1]; exact alloc_below _ _)
  have RB1 := hide (show RBox w1 X 53 (rzA r) by rw [hw1, hX]; exact RBox.new _ _ _)
  have H1 := hide (H.out.below B1.out)
  have HX := hide (show B ≤ X by rw [hX]; exact hB)
  have q1 := ((RBox.cells H1.out.box).get 1 _ rfl).1
  rw [eR] at q1
  obtain ⟨x0, f0⟩ := (RB1.out.cells.get 0 _ rfl)
  have ET := hide eR
  clear hn h
  go_enter Tryz.func54, Tryz.ntmps54
  go_upto_region 1 with fail
  rw [← hw1, ← hX]
  have HW1 := hide hw1
  have HXX := hide hX
  clear hw1 hX
  go_upto_region 2 with fail
  refine named (P := Code.wp _ _ _ _) ?_
  intro w2 hw2
  have hx2 : w2 = w1.setCell ⟨X, 0, none⟩ (.int .i64 ((n : Int) + 1)) := hw2
  have RB2 := hide (show RBox w2 X 53 (rzA (numd r ((n : Int) + 1))) by rw [hx2]; exact RBox.setCell RB1.out 0 _)
  have K2 := hide (show Keep (fun z => z = X) w1 w2 by rw [hx2]; exact (Keep.refl (fun z => z = X) w1).setCell (g := X) (j := 0) (fun _ => rfl) _)
  clear hw2 hx2 x0 f0 q1
  have B2 := hide (bkeep B1.out K2.out (Nat.le_refl _) (fun j hj => by have := HXX.out; omega))
  have H2 := hide (H.out.below B2.out)
  have XS := hide (show ∀ g, s.vR.ownBlock = some g → X ≠ g from fun g hg e => by have := (World.ownsRow.lt H.out.r g hg).2; have := HXX.out; omega)
  clear H1 B1 RB1 K2 HW1
  have q1 := ((RBox.cells H2.out.box).get 1 _ rfl).1
  rw [ET.out] at q1
  obtain ⟨r2, hr2⟩ : ∃ z, z = numd r ((n : Int) + 1) := ⟨_, rfl⟩
  have HR2 := hide hr2
  rw [← hr2] at RB2
  clear hr2
  obtain ⟨A, hA⟩ : ∃ z, z = rzA r2 := ⟨_, rfl⟩
  have HA := hide hA
  have SZ := hide (show A.size = 17 by rw [hA]; rfl)
  rw [← hA] at RB2
  have c0 : A.toList[0]? = some (.int .i64 ((n : Int) + 1)) := by rw [hA, HR2.out]; rfl
  clear hA
  refine wp_region_held_drew (S := fun wq => RBox wq X 53 A) (by kernel_rfl) (RBox.below RB2.out (Below.refl _ _).drew) (fun hS => ?_)
  have HD := hide (H2.out.below (Below.refl _ _).drew)
  have BD := hide (B2.out.drew)
  generalize w2.drew = we at *
  refine take_at 0 (some 12) (v := ?_) rfl rfl (by kernel_rfl) (by kernel_rfl) (by kernel_rfl) (fun _ _ _ h => h) ⟨by rfl, ?_⟩ hS ?_
  rotate_left
  · intro wq hSw; go_simp; try rfl
  simp only [Act.put, List.setIfInBounds_toArray, List.set_cons_zero, List.set_cons_succ]
  refine take_at 1 (some 13) (v := ?_) rfl rfl (by kernel_rfl) (by kernel_rfl) (by kernel_rfl) (fun _ _ _ h => h) ⟨by rfl, ?_⟩ hS ?_
  rotate_left
  · intro wq hSw; go_simp; try rfl
  simp only [Act.put, List.setIfInBounds_toArray, List.set_cons_zero, List.set_cons_succ]
  refine take_at 2 (some 14) (v := ?_) rfl rfl (by kernel_rfl) (by kernel_rfl) (by kernel_rfl) (fun _ _ _ h => h) ⟨by rfl, ?_⟩ hS ?_
  rotate_left
  · intro wq hSw; go_simp; try rfl
  simp only [Act.put, List.setIfInBounds_toArray, List.set_cons_zero, List.set_cons_succ]
  refine take_at 3 (some 15) (v := ?_) rfl rfl (by kernel_rfl) (by kernel_rfl) (by kernel_rfl) (fun _ _ _ h => h) ⟨by rfl, ?_⟩ hS ?_
  rotate_left
  · intro wq hSw; go_simp; try rfl
  simp only [Act.put, List.setIfInBounds_toArray, List.set_cons_zero, List.set_cons_succ]
  refine take_at 5 (some 17) (v := .agg A) rfl rfl (by kernel_rfl) (by kernel_rfl) (by kernel_rfl) (fun _ _ _ h => h) ⟨by rfl, fun wq hSw => exec_load53 rfl rfl (fun j v hv => by rw [Nat.zero_add]; exact ((RBox.cells hSw).get j v hv).1) SZ.out⟩ hS ?_
  (try simp only [Act.put, List.setIfInBounds_toArray, List.set_cons_zero, List.set_cons_succ])
  refine wpAnyH_ready (rs := [4, 6]) (by kernel_rfl) (by simp) ?_
  refine AllReadyH.cons rfl (fun K hK => ?_) (AllReadyH.cons rfl (fun K hK => ?_) AllReadyH.nil)
  · have q1 := ((RBox.cells HD.out.box).get 1 _ rfl).1
    rw [ET.out] at q1
    go_simp
    (try go_wp2_with fail)
    refine hK.out _ _ hS (fun hS => ?_)
    clear hK K
    (try simp only [Act.put, List.setIfInBounds_toArray, List.set_cons_zero, List.set_cons_succ])
    clear q1
    refine wpAnyH_ready (rs := [6]) (by kernel_rfl) (by simp) ?_
    refine AllReadyH.cons rfl (fun K hK => ?_) AllReadyH.nil
    refine wp_b22 (r := r2) (x := .tmp 17) rfl (by show Value.agg A = _; rw [HA.out]) ?_
    refine hK.out _ _ (RBox.below hS (alloc_below _ _)) (fun hS => ?_)
    clear hK K
    (try simp only [Act.put, List.setIfInBounds_toArray, List.set_cons_zero, List.set_cons_succ])
    obtain ⟨w3, hw3⟩ : ∃ z : World, z = we.alloc (.cells (rzA r2) 53) := ⟨_, rfl⟩
    obtain ⟨Y, hY⟩ : ∃ z, z = we.heap.size := ⟨_, rfl⟩
    have LZ := hide (show Lies w3 (some ⟨Y, 0, none⟩) (rzs [r2]) by rw [hw3, hY]; exact lies_rz we r2)
    have H3 := hide (show Sty w3 B sb s by rw [hw3]; exact HD.out.below (alloc_below _ _))
    have B3 := hide (show Below w.heap.size w w3 by rw [hw3]; exact bnext BD.out (alloc_below _ _) (Nat.le_refl _))
    rw [← hw3] at hS
    rw [← hw3, ← hY]
    clear hw3 hY HD BD
    have g3 := H3.out.r
    rw [ET.out, ← HN.out] at g3
    obtain ⟨v', x3, r3, g4, q2, -⟩ := run_pushW Tryz.underlying22 info53 rfl (by decide) 22 w3 B _ n _ g3 ⟨Y, 0, none⟩ 1 1 (rzs [r2]) rfl LZ.out (rzs_one _) (by omega) (by decide) (Nat.le_trans hB B3.out.size)
    obtain ⟨a', c', rfl, -⟩ := GRow.lies g4
    have K4 := hide (grown_keep q2)
    have G4 := hide g4
    have R3 := hide r3
    clear g3 g4 q2 r3
    refine wpAnyH_ready (rs := [7]) (by kernel_rfl) (by simp) ?_
    refine AllReadyH.cons rfl (fun K hK => ?_) AllReadyH.nil
    refine wp_run 19 (.tmp 16) (.tmp 18) rfl rfl rfl rfl rfl R3.out ?_
    refine hK.out _ _ (RBox.keep hS K4.out (fun e => XS.out X (by rw [ET.out]; exact e) rfl)) (fun hS => ?_)
    clear hK K
    (try simp only [Act.put, List.setIfInBounds_toArray, List.set_cons_zero, List.set_cons_succ])
    have rok : ∀ q ∈ s.R ++ [r2], I64 q.delta ∧ I64 q.id := by
      intro q hq
      rcases List.mem_append.1 hq with z | z
      · exact H.out.rok q z
      · rw [List.mem_singleton] at z; subst z; rw [HR2.out]; exact hr
    have g5 : GRow x3 B 53 17 (.slice a' (n + 1) c') (s.R ++ [r2]).length (rzs (s.R ++ [r2])) := by rw [rzs_app, List.length_append, ← HN.out]; exact G4.out
    have k4 := K4.out
    rw [← ET.out] at k4
    have H5 := hide (H3.out.setR g5 k4 rok)
    have bx := RBox.keepT H3.out.box k4 (ofty_row H3.out.r) (by decide)
    obtain ⟨y1, f1⟩ := (RBox.cells bx).get 1 _ rfl
    have TB := hide (ofty_box bx)
    have K5 := hide (show Keep (fun j => j = sb ∨ s.vR.ownBlock = some j) w x3 from (Keep.of_below B3.out).trans k4 (fun _ _ q => .inr q))
    have HBS := hide (H3.out.hb)
    clear g5 rok k4 bx
    refine take_at 8 (some 20) (v := ?_) rfl rfl (by kernel_rfl) (by kernel_rfl) (by kernel_rfl) (fun _ _ _ h => h) ⟨by rfl, ?_⟩ hS ?_
    rotate_left
    · intro wq hSw; go_simp; try rfl
    simp only [Act.put, List.setIfInBounds_toArray, List.set_cons_zero, List.set_cons_succ]
    refine take_at 9 (some 21) (v := ?_) rfl rfl (by kernel_rfl) (by kernel_rfl) (by kernel_rfl) (fun _ _ _ h => h) ⟨by rfl, ?_⟩ hS ?_
    rotate_left
    · intro wq hSw; go_simp; try rfl
    simp only [Act.put, List.setIfInBounds_toArray, List.set_cons_zero, List.set_cons_succ]
    refine wpAnyH_ready (rs := [10]) (by kernel_rfl) (by simp) ?_
    refine AllReadyH.cons rfl (fun K hK => ?_) AllReadyH.nil
    go_simp
    (try go_wp2_with fail)
    refine hK.out _ _ (RBox.keepT hS ((Keep.refl (fun z => z = sb) x3).setCell (g := sb) (j := 1) (fun _ => rfl) _) TB.out (by decide)) (fun hS => ?_)
    clear hK K
    (try simp only [Act.put, List.setIfInBounds_toArray, List.set_cons_zero, List.set_cons_succ])
    have D9 := hide hS
    clear hS y1 f1
    refine wpAnyH_done (by kernel_rfl) ?_ _
    have z0 := ((RBox.cells D9.out).get 0 _ c0).1
    go_wp2_with fail
    go_ret
    refine ⟨(n : Int) + 1, .slice a' (n + 1) c', rfl, ?_, ?_⟩
    · rw [← HR2.out]; exact H5.out
    · exact K5.out.trans ((Keep.refl (fun z => z = sb) x3).setCell (g := sb) (j := 1) (fun _ => rfl) _) (fun _ _ q => .inl q)
  · refine wp_b22 (r := r2) (x := .tmp 17) rfl (by show Value.agg A = _; rw [HA.out]) ?_
    refine hK.out _ _ (RBox.below hS (alloc_below _ _)) (fun hS => ?_)
    clear hK K
    (try simp only [Act.put, List.setIfInBounds_toArray, List.set_cons_zero, List.set_cons_succ])
    obtain ⟨w3, hw3⟩ : ∃ z : World, z = we.alloc (.cells (rzA r2) 53) := ⟨_, rfl⟩
    obtain ⟨Y, hY⟩ : ∃ z, z = we.heap.size := ⟨_, rfl⟩
    have LZ := hide (show Lies w3 (some ⟨Y, 0, none⟩) (rzs [r2]) by rw [hw3, hY]; exact lies_rz we r2)
    have H3 := hide (show Sty w3 B sb s by rw [hw3]; exact HD.out.below (alloc_below _ _))
    have B3 := hide (show Below w.heap.size w w3 by rw [hw3]; exact bnext BD.out (alloc_below _ _) (Nat.le_refl _))
    rw [← hw3] at hS
    rw [← hw3, ← hY]
    clear hw3 hY HD BD
    refine wpAnyH_ready (rs := [4]) (by kernel_rfl) (by simp) ?_
    refine AllReadyH.cons rfl (fun K hK => ?_) AllReadyH.nil
    have q1 := ((RBox.cells H3.out.box).get 1 _ rfl).1
    rw [ET.out] at q1
    go_simp
    (try go_wp2_with fail)
    refine hK.out _ _ hS (fun hS => ?_)
    clear hK K
    (try simp only [Act.put, List.setIfInBounds_toArray, List.set_cons_zero, List.set_cons_succ])
    clear q1
    have g3 := H3.out.r
    rw [ET.out, ← HN.out] at g3
    obtain ⟨v', x3, r3, g4, q2, -⟩ := run_pushW Tryz.underlying22 info53 rfl (by decide) 22 w3 B _ n _ g3 ⟨Y, 0, none⟩ 1 1 (rzs [r2]) rfl LZ.out (rzs_one _) (by omega) (by decide) (Nat.le_trans hB B3.out.size)
    obtain ⟨a', c', rfl, -⟩ := GRow.lies g4
    have K4 := hide (grown_keep q2)
    have G4 := hide g4
    have R3 := hide r3
    clear g3 g4 q2 r3
    refine wpAnyH_ready (rs := [7]) (by kernel_rfl) (by simp) ?_
    refine AllReadyH.cons rfl (fun K hK => ?_) AllReadyH.nil
    refine wp_run 19 (.tmp 16) (.tmp 18) rfl rfl rfl rfl rfl R3.out ?_
    refine hK.out _ _ (RBox.keep hS K4.out (fun e => XS.out X (by rw [ET.out]; exact e) rfl)) (fun hS => ?_)
    clear hK K
    (try simp only [Act.put, List.setIfInBounds_toArray, List.set_cons_zero, List.set_cons_succ])
    have rok : ∀ q ∈ s.R ++ [r2], I64 q.delta ∧ I64 q.id := by
      intro q hq
      rcases List.mem_append.1 hq with z | z
      · exact H.out.rok q z
      · rw [List.mem_singleton] at z; subst z; rw [HR2.out]; exact hr
    have g5 : GRow x3 B 53 17 (.slice a' (n + 1) c') (s.R ++ [r2]).length (rzs (s.R ++ [r2])) := by rw [rzs_app, List.length_append, ← HN.out]; exact G4.out
    have k4 := K4.out
    rw [← ET.out] at k4
    have H5 := hide (H3.out.setR g5 k4 rok)
    have bx := RBox.keepT H3.out.box k4 (ofty_row H3.out.r) (by decide)
    obtain ⟨y1, f1⟩ := (RBox.cells bx).get 1 _ rfl
    have TB := hide (ofty_box bx)
    have K5 := hide (show Keep (fun j => j = sb ∨ s.vR.ownBlock = some j) w x3 from (Keep.of_below B3.out).trans k4 (fun _ _ q => .inr q))
    have HBS := hide (H3.out.hb)
    clear g5 rok k4 bx
    refine take_at 8 (some 20) (v := ?_) rfl rfl (by kernel_rfl) (by kernel_rfl) (by kernel_rfl) (fun _ _ _ h => h) ⟨by rfl, ?_⟩ hS ?_
    rotate_left
    · intro wq hSw; go_simp; try rfl
    simp only [Act.put, List.setIfInBounds_toArray, List.set_cons_zero, List.set_cons_succ]
    refine take_at 9 (some 21) (v := ?_) rfl rfl (by kernel_rfl) (by kernel_rfl) (by kernel_rfl) (fun _ _ _ h => h) ⟨by rfl, ?_⟩ hS ?_
    rotate_left
    · intro wq hSw; go_simp; try rfl
    simp only [Act.put, List.setIfInBounds_toArray, List.set_cons_zero, List.set_cons_succ]
    refine wpAnyH_ready (rs := [10]) (by kernel_rfl) (by simp) ?_
    refine AllReadyH.cons rfl (fun K hK => ?_) AllReadyH.nil
    go_simp
    (try go_wp2_with fail)
    refine hK.out _ _ (RBox.keepT hS ((Keep.refl (fun z => z = sb) x3).setCell (g := sb) (j := 1) (fun _ => rfl) _) TB.out (by decide)) (fun hS => ?_)
    clear hK K
    (try simp only [Act.put, List.setIfInBounds_toArray, List.set_cons_zero, List.set_cons_succ])
    have D9 := hide hS
    clear hS y1 f1
    refine wpAnyH_done (by kernel_rfl) ?_ _
    have z0 := ((RBox.cells D9.out).get 0 _ c0).1
    go_wp2_with fail
    go_ret
    refine ⟨(n : Int) + 1, .slice a' (n + 1) c', rfl, ?_, ?_⟩
    · rw [← HR2.out]; exact H5.out
    · exact K5.out.trans ((Keep.refl (fun z => z = sb) x3).setCell (g := sb) (j := 1) (fun _ => rfl) _) (fun _ _ q => .inl q)
end Go.Proofs.YtehbpmibllpkhaaGreatDoor
