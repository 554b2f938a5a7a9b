import Derived.Test.YthaiagalndcndaaPo6
import Derived.Test.YthaiagalndcndaaTake
namespace Go.Proofs.Ythaiagalndcndaa
open Go.RowKit Go.QK Go.Maps Go.QM Go.QP
set_option maxRecDepth 100000
set_option maxHeartbeats 1000000 in
theorem brought_any (x : Int) (n : Nat) (w : World) (h1 : 1 ≤ n) (h2 : n ≤ 2147483647) : Calls Try.prog 21 #[.int .i64 x, .int .i64 (n : Int)] w fun e w' => ∃ j : Nat, e = .returned (.int .i64 (j : Int)) ∧ j < n ∧ w = w' := by
  have b1 := Int.tmod_lt_of_pos x (show (0 : Int) < (n : Int) by omega)
  have b2 := Int.lt_tmod_of_pos x (show (0 : Int) < (n : Int) by omega)
  have h0 : ((n : Int) == 0) = false := by simp; omega
  have hn0 : ¬ (n : Int) = 0 := by omega
  have hw : wrap64 (Int.tmod x n) = Int.tmod x n := wrapI (by unfold I64; omega)
  have HH := hide (And.intro b1 b2)
  clear b1 b2
  go_enter Try.func21, Try.ntmps21
  go_upto_region 2 with fail
  have b1 := HH.out.1
  have b2 := HH.out.2
  clear HH
  generalize Int.tmod x (n : Int) = r at *
  by_cases q : r < 0
  · have e1 : decide (r < 0) = true := by simpa using q
    have hw2 : wrap64 (r + n) = r + n := wrapI (by unfold I64; omega)
    go_wp2_with fail
    go_ret
    exact ⟨(r + n).toNat, ret_int (by omega), by omega, rfl⟩
  · have e1 : decide (r < 0) = false := by simpa using q
    go_wp2_with fail
    go_ret
    exact ⟨r.toNat, ret_int (by omega), by omega, rfl⟩
set_option maxHeartbeats 1000000 in
theorem same_true (l : List Dr) (a b : Option Addr) (c d : Nat) (w : World) (h1 : Lies w a (drs l)) (h2 : Lies w b (drs l)) (hl : l.length ≤ 1000000) :
    Calls Try.prog 10 #[.slice a l.length c, .slice b l.length d] w fun e w' => e = .returned (.bool true) ∧ Below w.heap.size w w' := by
  go_enter Try.func10, Try.ntmps10
  go_wp2
  go_loopw [5] (fun v wr => ∃ k : Nat, v = .int .i64 (k : Int) ∧ k ≤ l.length ∧ Below w.heap.size w wr) (fun v _ => l.length - (intOf v).toNat)
  case atStart => exact ⟨0, rfl, Nat.zero_le _, Below.refl _ _⟩
  case round =>
    obtain ⟨k, rfl, hk, hb⟩ := hrel
    by_cases hlt : k < l.length
    · obtain ⟨b1, o1, rfl, hb1, p0, p1⟩ := (h1.below hb).dr hlt
      obtain ⟨b2, o2, rfl, hb2, r0, r1⟩ := (h2.below hb).dr hlt
      have HB := hide hb
      generalize l[k] = x at *
      obtain ⟨z1, z2⟩ := x
      simp only at p0 p1 r0 r1
      clear hb h1 h2
      go_upto_region 6 with fail
      go_quiet (fail)
      go_wp2_with fail
      go_roundw
      case rel => exact ⟨k + 1, by go_num, by omega, below_drewN HB.out _⟩
      case measure => simp [intOf]; omega
    · have HB := hide hb
      clear hb h1 h2
      go_wp2
      go_ret
      exact ⟨rfl, HB.out⟩
set_option maxHeartbeats 1000000 in
theorem merged_any (a b : Option Addr) (ca cb : Nat) (la lb : List Dr) (w : World) (ha : EntOk w ⟨a, ca, la⟩) (hb : EntOk w ⟨b, cb, lb⟩) (hfa : Fine la) (hfb : Fine lb) :
    Calls Try.prog 9 #[.slice a la.length ca, .slice b lb.length cb] w fun e w' => ∃ v, e = .returned v ∧ DRow w' w.heap.size v (tidy (la ++ lb)) ∧ Below w.heap.size w w' := by
  have K := merge_yes a b ca cb la lb w ha hb ((fault_fine _).2 (hfa.append hfb))
  rw [mergeL_eq hfa hfb] at K
  have HM := hide (tidy_len (la ++ lb))
  generalize tidy (la ++ lb) = m at *
  generalize la.length = na at *
  generalize lb.length = nb at *
  clear ha hb hfa hfb
  go_enter Try.func9, Try.ntmps9
  go_wp2_with fail
  refine K.mono ?_
  rintro e w1 ⟨v, rfl, r1, b1⟩
  obtain ⟨av, cv, hv, -⟩ := GRow.lies r1
  have R1 := hide r1
  have B1 := hide b1
  subst hv
  clear r1 b1 K
  go_wp2_with (go_at_call 13; refine (num_eq _ _).mono ?_; rintro e wz ⟨rfl, rfl⟩)
  go_ret
  exact ⟨_, rfl, R1.out, B1.out⟩
set_option maxHeartbeats 2000000 in
theorem fit_any (a : Option Addr) (c : Nat) (l : List Dr) (w : World) (h : Lies w a (drs l)) :
    Calls Try.prog 8 #[.slice a l.length c] w fun e w' => ∃ v l', e = .returned v ∧ DRow w' w.heap.size v l' ∧ Fine l' ∧ l'.length ≤ 2000 ∧ Below w.heap.size w w' := by
  have HL := hide h
  clear h
  go_enter Try.func8, Try.ntmps8
  go_wp2
  go_loopw [3, 4] (fun v i wr => ∃ (k : Nat) (l' : List Dr), i = .int .i64 (k : Int) ∧ k ≤ l.length ∧ k ≤ 2000 ∧ GRow wr w.heap.size 28 2 v k (drs l') ∧ l'.length = k ∧ Fine l' ∧ Below w.heap.size w wr) (fun _ i _ => 2001 - (intOf i).toNat)
  case atStart => exact ⟨0, [], rfl, Nat.zero_le _, by omega, World.ownsRow_nil w w.heap.size 28 2, rfl, Fine.nil, Below.refl _ _⟩
  case round =>
    obtain ⟨k, l', rfl, hk, hk2, hr, hll, hfi, hb⟩ := hrel
    have R0 := hide hr
    have B0 := hide hb
    have HLL := hide hll
    have HFI := hide hfi
    obtain ⟨av, cv, hv, -⟩ := GRow.lies hr
    subst hv
    clear hr hb hll hfi
    have fin : DRow wr w.heap.size (.slice av k cv) l' := by
      show GRow wr w.heap.size 28 2 (.slice av k cv) l'.length (drs l')
      rw [HLL.out]
      exact R0.out
    have FIN := hide fin
    clear fin
    by_cases hlt : k < l.length
    · by_cases hlt2 : k < 2000
      · obtain ⟨b, off, rfl, hbl, c0, c1⟩ := HL.out.dr hlt
        generalize l[k] = x at *
        obtain ⟨p, s⟩ := x
        simp only at c0 c1
        have C0 := hide c0
        have C1 := hide c1
        have hbs := B0.out.size
        clear c0 c1 FIN
        go_upto_region 5 with fail
        refine wp_region_held_drew (S := fun wq => Below w.heap.size wr wq) (by kernel_rfl) (Below.refl _ _).drew (fun hS => ?_)
        refine take_at 0 (some 15) (v := ?_) rfl rfl (by kernel_rfl) (by kernel_rfl) (by kernel_rfl) (fun _ _ _ h => h) ⟨by rfl, ?_⟩ hS ?_
        rotate_left
        · intro wq hSw; go_simp; try rfl
        simp only [Act.put, List.setIfInBounds_toArray, List.set_cons_zero, List.set_cons_succ]
        refine take_at 1 (some 16) (v := ?_) rfl rfl (by kernel_rfl) (by kernel_rfl) (by kernel_rfl) (fun _ _ _ h => h) ⟨by rfl, ?_⟩ hS ?_
        rotate_left
        · intro wq hSw; go_simp; try rfl
        simp only [Act.put, List.setIfInBounds_toArray, List.set_cons_zero, List.set_cons_succ]
        refine take_at 2 (some 17) (v := ?_) rfl rfl (by kernel_rfl) (by kernel_rfl) (by kernel_rfl) (fun _ _ _ h => h) ⟨by rfl, ?_⟩ hS ?_
        rotate_left
        · intro wq hSw; go_simp; try rfl
        simp only [Act.put, List.setIfInBounds_toArray, List.set_cons_zero, List.set_cons_succ]
        refine take_at 3 (some 18) (v := ?_) rfl rfl (by kernel_rfl) (by kernel_rfl) (by kernel_rfl) (fun _ _ _ h => h) ⟨by rfl, ?_⟩ hS ?_
        rotate_left
        · intro wq hSw; go_simp; try rfl
        simp only [Act.put, List.setIfInBounds_toArray, List.set_cons_zero, List.set_cons_succ]
        refine take_at 4 (some 19) (v := ?_) rfl rfl (by kernel_rfl) (by kernel_rfl) (by kernel_rfl) (fun _ _ _ h => h) ⟨by rfl, ?_⟩ hS ?_
        rotate_left
        · intro wq hSw; go_simp; try rfl
        simp only [Act.put, List.setIfInBounds_toArray, List.set_cons_zero, List.set_cons_succ]
        refine take_at 5 (some 20) (v := ?_) rfl rfl (by kernel_rfl) (by kernel_rfl) (by kernel_rfl) (fun _ _ _ h => h) ⟨by rfl, ?_⟩ hS ?_
        rotate_left
        · intro wq hSw; have q0 := ((B0.out.trans hSw).cell (p := ⟨b, off + k * 2, none⟩) hbl).trans C0.out; go_simp; try rfl
        simp only [Act.put, List.setIfInBounds_toArray, List.set_cons_zero, List.set_cons_succ]
        refine take_at 7 (some 22) (v := ?_) rfl rfl (by kernel_rfl) (by kernel_rfl) (by kernel_rfl) (fun _ _ _ h => h) ⟨by rfl, ?_⟩ hS ?_
        rotate_left
        · intro wq hSw; go_simp; try rfl
        simp only [Act.put, List.setIfInBounds_toArray, List.set_cons_zero, List.set_cons_succ]
        refine take_at 8 (some 23) (v := ?_) rfl rfl (by kernel_rfl) (by kernel_rfl) (by kernel_rfl) (fun _ _ _ h => h) ⟨by rfl, ?_⟩ hS ?_
        rotate_left
        · intro wq hSw; go_simp; try rfl
        simp only [Act.put, List.setIfInBounds_toArray, List.set_cons_zero, List.set_cons_succ]
        refine take_at 9 (some 24) (v := ?_) rfl rfl (by kernel_rfl) (by kernel_rfl) (by kernel_rfl) (fun _ _ _ h => h) ⟨by rfl, ?_⟩ hS ?_
        rotate_left
        · intro wq hSw; go_simp; try rfl
        simp only [Act.put, List.setIfInBounds_toArray, List.set_cons_zero, List.set_cons_succ]
        refine take_at 10 (some 25) (v := ?_) rfl rfl (by kernel_rfl) (by kernel_rfl) (by kernel_rfl) (fun _ _ _ h => h) ⟨by rfl, ?_⟩ hS ?_
        rotate_left
        · intro wq hSw; go_simp; try rfl
        simp only [Act.put, List.setIfInBounds_toArray, List.set_cons_zero, List.set_cons_succ]
        refine take_at 11 (some 26) (v := ?_) rfl rfl (by kernel_rfl) (by kernel_rfl) (by kernel_rfl) (fun _ _ _ h => h) ⟨by rfl, ?_⟩ hS ?_
        rotate_left
        · intro wq hSw; have q1 := ((B0.out.trans hSw).cell (p := ⟨b, off + k * 2 + 1, none⟩) hbl).trans C1.out; go_simp; try rfl
        simp only [Act.put, List.setIfInBounds_toArray, List.set_cons_zero, List.set_cons_succ]
        refine wpAnyH_ready (rs := [6]) (by kernel_rfl) (by simp) ?_
        refine AllReadyH.cons rfl (fun K hK => ?_) AllReadyH.nil
        go_simp
        go_wp2_with fail
        refine (brought_any p 64 _ (by omega) (by omega)).mono ?_
        rintro e wz ⟨y, rfl, hy, rfl⟩
        go_wp2_with fail
        refine hK.out _ _ hS (fun hS => ?_)
        clear hK K
        (try simp only [Act.put, List.setIfInBounds_toArray, List.set_cons_zero, List.set_cons_succ])
        refine wpAnyH_ready (rs := [12]) (by kernel_rfl) (by simp) ?_
        refine AllReadyH.cons rfl (fun K hK => ?_) AllReadyH.nil
        go_simp
        go_wp2_with fail
        refine (brought_any s 2147483647 _ (by omega) (by omega)).mono ?_
        rintro e wz ⟨z, rfl, hz, rfl⟩
        go_wp2_with fail
        refine hK.out _ _ hS (fun hS => ?_)
        clear hK K
        (try simp only [Act.put, List.setIfInBounds_toArray, List.set_cons_zero, List.set_cons_succ])
        have hzw : IntKind.i64.wrap (1 + (z : Int)) = 1 + (z : Int) := by rw [IntKind.wrap_i64]; omega
        refine take_at 13 (some 28) (v := ?_) rfl rfl (by kernel_rfl) (by kernel_rfl) (by kernel_rfl) (fun _ _ _ h => h) ⟨by rfl, ?_⟩ hS ?_
        rotate_left
        · intro wq hSw; go_simp; try rfl
        simp only [Act.put, List.setIfInBounds_toArray, List.set_cons_zero, List.set_cons_succ]
        refine take_at 14 (some 29) (v := ?_) rfl rfl (by kernel_rfl) (by kernel_rfl) (by kernel_rfl) (fun _ _ _ h => h) ⟨by rfl, ?_⟩ hS ?_
        rotate_left
        · intro wq hSw; go_simp; try rfl
        simp only [Act.put, List.setIfInBounds_toArray, List.set_cons_zero, List.set_cons_succ]
        have D1 := hide hS
        clear hS
        have DX := hide (show Below wr.heap.size wr wr.drew from (Below.refl _ _).drew)
        generalize wr.drew = x0 at *
        have D2 := hide (D1.out.alloc (by have := D1.out.size; omega) (.cells #[.int .i64 (y : Int), .int .i64 (1 + (z : Int))] 28))
        have RX := GRow.keep (GRow.keep R0.out (Keep.of_below (S := fun _ => False) (DX.out)) (fun _ _ => id)) ((Keep.refl (fun _ => False) x0).alloc (.cells #[.int .i64 (y : Int), .int .i64 (1 + (z : Int))] 28)) (fun _ _ => id)
        obtain ⟨vn, w2, hrun, q1, q2, q3⟩ := run_pushR Try.underlying23 info28 rfl (by decide) (by decide) 23 (x0.alloc (.cells #[.int .i64 (y : Int), .int .i64 (1 + (z : Int))] 28)) w.heap.size _ k (drs l') RX ⟨x0.heap.size, 0, none⟩ 1 1 (drs [((y : Int), 1 + (z : Int))]) rfl (lies_new2 _ ((y : Int), 1 + (z : Int)) 28) (drs_one _) (by omega) (by have := D2.out.size; omega)
        have HRR := hide hrun
        have HQ1 := hide q1
        have HB2 := hide (show Below w.heap.size wr w2 from D2.out.trans ((grown_keep q2).below (by have := D2.out.size; omega) (fun g hg q => by have := (World.ownsRow.lt R0.out g q).1; omega)))
        clear hrun q1 q2 q3 RX
        refine wpAnyH_ready (rs := [15]) (by kernel_rfl) (by simp) ?_
        refine AllReadyH.cons rfl (fun K hK => ?_) AllReadyH.nil
        go_simp
        go_wp2_with fail
        refine hK.out _ _ D2.out (fun hS => ?_)
        clear hK K
        (try simp only [Act.put, List.setIfInBounds_toArray, List.set_cons_zero, List.set_cons_succ])
        refine wpAnyH_ready (rs := [16]) (by kernel_rfl) (by simp) ?_
        refine AllReadyH.cons rfl (fun K hK => ?_) AllReadyH.nil
        refine wp_run 31 (.tmp 15) (.tmp 30) rfl rfl rfl rfl rfl HRR.out ?_
        refine hK.out _ _ HB2.out (fun hS => ?_)
        clear hK K
        (try simp only [Act.put, List.setIfInBounds_toArray, List.set_cons_zero, List.set_cons_succ])
        refine take_at 17 (some 3) (v := ?_) rfl rfl (by kernel_rfl) (by kernel_rfl) (by kernel_rfl) (fun _ _ _ h => h) ⟨by rfl, ?_⟩ hS ?_
        rotate_left
        · intro wq hSw; go_simp; try rfl
        simp only [Act.put, List.setIfInBounds_toArray, List.set_cons_zero, List.set_cons_succ]
        refine wpAnyH_done (by kernel_rfl) ?_ _
        go_wp2_with fail
        go_roundw
        case rel =>
          refine ⟨k + 1, l' ++ [((y : Int), 1 + (z : Int))], by go_num, by omega, by omega, by rw [drs_append]; exact HQ1.out, by simp [HLL.out], HFI.out.append ?_, B0.out.trans HB2.out⟩
          intro d hd
          rw [List.mem_singleton.1 hd]
          refine ⟨?_, ?_, ?_, ?_⟩ <;> simp only <;> omega
        case measure => simp [intOf]; omega
      · obtain rfl : k = 2000 := by omega
        go_wp2
        go_ret
        exact ⟨_, l', rfl, FIN.out, HFI.out, by rw [HLL.out]; exact Nat.le_refl _, B0.out⟩
    · obtain rfl : k = l.length := by omega
      go_wp2
      go_ret
      exact ⟨_, l', rfl, FIN.out, HFI.out, by rw [HLL.out]; exact hk2, B0.out⟩
end Go.Proofs.Ythaiagalndcndaa
