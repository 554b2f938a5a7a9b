import Derived.Test.YtehbpmibllpkhaaGreatDoorUd1
set_option linter.all false
namespace Go.Proofs.YtehbpmibllpkhaaGreatDoor
open Go.RowKit Go.QK Go.Maps Go.QM Go.QU
set_option maxRecDepth 100000
set_option maxHeartbeats 8000000 in
theorem same_true (xs : List RZ) (a b : Option Addr) (c d : Nat) (w : World) (h1 : Lies w a (rzs xs)) (h2 : Lies w b (rzs xs)) (hl : xs.length ≤ 140737488355328) :
    Calls Tryz.prog 9 #[.slice a xs.length c, .slice b xs.length d] w fun e w' => e = .returned (.bool true) ∧ Below w.heap.size w w' := by
  obtain ⟨N, hN⟩ : ∃ n, n = xs.length := ⟨_, rfl⟩
  rw [← hN] at hl ⊢
  have HN := hide hN
  have H1 := hide h1
  have H2 := hide h2
  clear hN h1 h2
  go_enter Tryz.func9, Tryz.ntmps9
  go_wp2_with fail
  go_loopw [5] (fun v wz => ∃ k : Nat, v = .int .i64 (k : Int) ∧ k ≤ N ∧ Below w.heap.size w wz) (fun v _ => N + 1 - (intOf v).toNat)
  case atStart => exact ⟨0, rfl, Nat.zero_le _, Below.refl _ _⟩
  case round =>
    obtain ⟨k, rfl, hk, hb⟩ := hrel
    have HB := hide hb
    clear hb
    by_cases hlt : k < N
    · have d1 : decide ((k : Int) < (N : Int)) = true := decide_eq_true (by omega)
      have d2 : (k : Int) < (N : Int) := by omega
      have hx : k < xs.length := by have := HN.out; omega
      obtain ⟨b1, o1, rfl, l1, c1⟩ := rz_at H1.out k hx
      obtain ⟨b2, o2, rfl, l2, c2⟩ := rz_at H2.out k hx
      generalize xs[k] = x at *
      have PT := hide (show ∀ w, Calls Tryz.prog 23 #[.agg (rzA x), .agg (rzA x)] w fun e w' => e = .returned (.bool true) ∧ Below w.heap.size w w' from fun w => plain_true x w)
      obtain ⟨A, hA⟩ : ∃ A, A = rzA x := ⟨_, rfl⟩
      have SA := hide (show A.size = 17 by rw [hA]; rfl)
      rw [← hA] at PT c1 c2
      clear hA
      have C1 := hide (show ∀ wq, Below w.heap.size w wq → ∀ j v, A.toList[j]? = some v → wq.cell? ⟨b1, o1 + k * 17 + j, none⟩ = some v from fun wq hq j v hv => (hq.cell (p := ⟨b1, o1 + k * 17 + j, none⟩) l1).trans (c1 j v hv))
      have C2 := hide (show ∀ wq, Below w.heap.size w wq → ∀ j v, A.toList[j]? = some v → wq.cell? ⟨b2, o2 + k * 17 + j, none⟩ = some v from fun wq hq j v hv => (hq.cell (p := ⟨b2, o2 + k * 17 + j, none⟩) l2).trans (c2 j v hv))
      clear c1 c2 l1 l2
      go_upto_region 6 with fail
      refine wp_region_held_drew (S := fun wq => Below w.heap.size w wq) (by kernel_rfl) HB.out.drew (fun hS => ?_)
      refine take_at 0 (some 17) (v := ?_) rfl rfl (by kernel_rfl) (by kernel_rfl) (by kernel_rfl) (fun _ _ _ h => h) ⟨by rfl, ?_⟩ hS ?_
      rotate_left
      · intro wq hSw; go_simp; try rfl
      simp only [Act.put, List.setIfInBounds_toArray, List.set_cons_zero, List.set_cons_succ]
      refine take_at 1 (some 18) (v := ?_) rfl rfl (by kernel_rfl) (by kernel_rfl) (by kernel_rfl) (fun _ _ _ h => h) ⟨by rfl, ?_⟩ hS ?_
      rotate_left
      · intro wq hSw; go_simp; try rfl
      simp only [Act.put, List.setIfInBounds_toArray, List.set_cons_zero, List.set_cons_succ]
      refine take_at 2 (some 19) (v := ?_) rfl rfl (by kernel_rfl) (by kernel_rfl) (by kernel_rfl) (fun _ _ _ h => h) ⟨by rfl, ?_⟩ hS ?_
      rotate_left
      · intro wq hSw; go_simp; try rfl
      simp only [Act.put, List.setIfInBounds_toArray, List.set_cons_zero, List.set_cons_succ]
      refine take_at 3 (some 20) (v := .agg A) rfl rfl (by kernel_rfl) (by kernel_rfl) (by kernel_rfl) (fun _ _ _ h => h) ⟨by rfl, fun wq hSw => exec_load53 rfl rfl (C1.out wq hSw) SA.out⟩ hS ?_
      simp only [Act.put, List.setIfInBounds_toArray, List.set_cons_zero, List.set_cons_succ]
      refine take_at 4 (some 21) (v := ?_) rfl rfl (by kernel_rfl) (by kernel_rfl) (by kernel_rfl) (fun _ _ _ h => h) ⟨by rfl, ?_⟩ hS ?_
      rotate_left
      · intro wq hSw; go_simp; try rfl
      simp only [Act.put, List.setIfInBounds_toArray, List.set_cons_zero, List.set_cons_succ]
      refine take_at 5 (some 22) (v := ?_) rfl rfl (by kernel_rfl) (by kernel_rfl) (by kernel_rfl) (fun _ _ _ h => h) ⟨by rfl, ?_⟩ hS ?_
      rotate_left
      · intro wq hSw; go_simp; try rfl
      simp only [Act.put, List.setIfInBounds_toArray, List.set_cons_zero, List.set_cons_succ]
      refine take_at 6 (some 23) (v := ?_) rfl rfl (by kernel_rfl) (by kernel_rfl) (by kernel_rfl) (fun _ _ _ h => h) ⟨by rfl, ?_⟩ hS ?_
      rotate_left
      · intro wq hSw; go_simp; try rfl
      simp only [Act.put, List.setIfInBounds_toArray, List.set_cons_zero, List.set_cons_succ]
      refine take_at 7 (some 24) (v := .agg A) rfl rfl (by kernel_rfl) (by kernel_rfl) (by kernel_rfl) (fun _ _ _ h => h) ⟨by rfl, fun wq hSw => exec_load53 rfl rfl (C2.out wq hSw) SA.out⟩ hS ?_
      simp only [Act.put, List.setIfInBounds_toArray, List.set_cons_zero, List.set_cons_succ]
      refine wpAnyH_ready (rs := [8]) (by kernel_rfl) (by simp) ?_
      refine AllReadyH.cons rfl (fun K hK => ?_) AllReadyH.nil
      go_simp
      go_wp2_with fail
      refine (PT.out _).mono ?_
      rintro e x1 ⟨rfl, hh⟩
      go_wp2_with fail
      refine hK.out _ _ (hS.trans (hh.mono hS.size)) (fun hS => ?_)
      clear hK K hh
      (try simp only [Act.put, List.setIfInBounds_toArray, List.set_cons_zero, List.set_cons_succ])
      refine take_at 9 (some 26) (v := ?_) rfl rfl (by kernel_rfl) (by kernel_rfl) (by kernel_rfl) (fun _ _ _ h => h) ⟨by rfl, ?_⟩ hS ?_
      rotate_left
      · intro wq hSw; go_simp; try rfl
      simp only [Act.put, List.setIfInBounds_toArray, List.set_cons_zero, List.set_cons_succ]
      have D9 := hide hS
      clear hS
      refine wpAnyH_done (by kernel_rfl) ?_ _
      go_wp2_with fail
      go_roundw
      case rel => exact ⟨k + 1, by go_num, by omega, D9.out⟩
      case measure => simp [intOf]; omega
    · obtain rfl : N = k := by omega
      have d1 : decide ((N : Int) < (N : Int)) = false := decide_eq_false (by omega)
      go_wp2_with fail
      go_ret
      exact ⟨rfl, HB.out⟩
set_option maxHeartbeats 8000000 in
/-- 'lent': a copy with a mark behind it. -/
theorem lent_any (xs : List RZ) (a : Option Addr) (c : Nat) (w : World) (h : Lies w a (rzs xs)) (hna : a = none → c = 0 ∧ xs.length = 0) (hl : (xs.length + 1) * 168 ≤ 140737488355328) :
    Calls Tryz.prog 6 #[.slice a xs.length c] w fun e w' => ∃ g c', e = .returned (.slice (some ⟨g, 0, none⟩) xs.length c') ∧ xs.length + 1 ≤ c' ∧ GRow w' w.heap.size 53 17 (.slice (some ⟨g, 0, none⟩) (xs.length + 1) c') (xs.length + 1) (rzs (xs ++ [mkZ])) ∧ Below w.heap.size w w' := by
  obtain ⟨N, hN⟩ : ∃ n, n = xs.length := ⟨_, rfl⟩
  have hlen : (rzs xs).length = N * 17 := by rw [rzs_len, hN]
  rw [← hN] at hl hna ⊢
  have HX := hide h
  have HA := hide hna
  clear hN h hna
  go_enter Tryz.func6, Tryz.ntmps6
  go_upto_region 3 with (at_builtin; refine wpList_appW Tryz.underlying22 info53 rfl (by decide) (by decide) rfl (.tmp 4) (.tmp 5) rfl w.heap.size (.slice none 0 0) 0 [] rfl (World.ownsRow_nil _ _ _ _) a N c (rzs xs) rfl hlen HX.out (rzs_one xs) HA.out (by omega) (Nat.le_refl _) ?_; intro v5 w5 q1 q2 q3; rw [Nat.zero_add, List.nil_append] at q1; obtain ⟨a1, c1, e1, -⟩ := GRow.lies q1; subst e1; have b5 : Below w.heap.size w w5 := (Below.refl _ _).grown q2 (Nat.le_refl _) (by nofun))
  have G5 := hide (GRow.below q1 (alloc_below w5 (.cells (rzA mkZ) 53)))
  have B5 := hide (b5.trans ((alloc_below w5 (.cells (rzA mkZ) 53)).mono b5.size))
  clear q1 q2 q3 b5
  go_upto_region 4 with (first | refine wpList_b22 (r := mkZ) rfl ?_ | (at_builtin; refine wpList_appW Tryz.underlying22 info53 rfl (by decide) (by decide) rfl (.tmp 7) (.tmp 9) rfl w.heap.size (.slice a1 N c1) N (rzs xs) rfl G5.out (some ⟨w5.heap.size, 0, none⟩) 1 1 (rzs [mkZ]) rfl rfl (lies_rz w5 mkZ) (rzs_one [mkZ]) nofun (by omega) B5.out.size ?_; intro v6 w6 q1 q2 q3; obtain ⟨g, c2, e1, hc2⟩ := grow_open q1 (Nat.succ_pos _); subst e1; have b6 : Below w.heap.size w w6 := B5.out.trans ((grown_keep q2).below B5.out.size (fun z hz e => by have := (World.ownsRow.lt G5.out z e).1; omega))))
  rw [← rzs_app] at q1
  have G6 := hide q1
  have B6 := hide b6
  have s1 := fun wq => slice22 (a := some ⟨g, 0, none⟩) (n := N + 1) (cap := c2) N wq (by omega) nofun
  clear q1 q2 q3 b6
  go_wp2_with fail
  go_ret
  exact ⟨g, c2, rfl, hc2, G6.out, B6.out⟩
set_option maxHeartbeats 8000000 in
theorem kept_true (xs : List RZ) (a : Option Addr) (g c c' : Nat) (w : World) (B : Nat) (h : Lies w a (rzs xs)) (ho : GRow w B 53 17 (.slice (some ⟨g, 0, none⟩) (xs.length + 1) c') (xs.length + 1) (rzs (xs ++ [mkZ]))) (hc : xs.length + 1 ≤ c') (hl : xs.length + 1 ≤ 140737488355328) :
    Calls Tryz.prog 10 #[.slice (some ⟨g, 0, none⟩) xs.length c', .slice a xs.length c] w fun e w' => e = .returned (.bool true) ∧ Below w.heap.size w w' := by
  obtain ⟨_, _, e1, li, -⟩ := GRow.lies ho
  cases e1
  have lx : Lies w (some ⟨g, 0, none⟩) (rzs xs) := by
    rw [rzs_app] at li
    rcases li with q | ⟨b, off, e, hb, hc⟩
    · exact .inl (List.append_eq_nil_iff.1 q).1
    · exact .inr ⟨b, off, e, hb, fun i hi => by rw [hc i (by rw [List.length_append]; omega), List.getElem_append_left hi]⟩
  have SM := hide (same_true xs (some ⟨g, 0, none⟩) a c' c w lx h (by omega))
  obtain ⟨N, hN⟩ : ∃ n, n = xs.length := ⟨_, rfl⟩
  have hm : w.cell? ⟨g, N * 17, none⟩ = some (.int .i64 (-77)) := by
    obtain ⟨b, off, e, _, hc⟩ := rz_at li N (by simp [hN])
    cases e
    have := hc 0 (.int .i64 (-77)) (by simp [hN])
    simpa using this
  have hg : g < w.heap.size := (World.ownsRow.lt ho g rfl).2
  rw [← hN] at hl hc SM ⊢
  have HM := hide (show ∀ wq, Below w.heap.size w wq → wq.cell? ⟨g, N * 17, none⟩ = some (.int .i64 (-77)) from fun wq hq => (hq.cell (p := ⟨g, N * 17, none⟩) hg).trans hm)
  clear hN ho li lx hm h
  have s1 := fun wq => slice22 (a := some ⟨g, 0, none⟩) (n := N) (cap := c') (N + 1) wq hc nofun
  have e9 : IntKind.i64.wrap ((N : Int) + 1) = ((N + 1 : Nat) : Int) := by rw [IntKind.wrap_i64]; omega
  have e10 : (N : Int) + 1 = ((N + 1 : Nat) : Int) := by omega
  obtain ⟨M, hM⟩ : ∃ m, m = N + 1 := ⟨_, rfl⟩
  rw [← hM] at s1 e9 e10 hc
  have hNM : (N : Int) < (M : Int) := by omega
  clear hM
  go_enter Tryz.func10, Tryz.ntmps10
  go_wp2_with fail
  refine SM.out.mono ?_
  rintro e w2 ⟨rfl, hh⟩
  have m0 := HM.out _ hh
  go_wp2_with fail
  go_ret
  exact ⟨rfl, hh⟩
end Go.Proofs.YtehbpmibllpkhaaGreatDoor
