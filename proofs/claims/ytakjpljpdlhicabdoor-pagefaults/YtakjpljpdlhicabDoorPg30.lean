import Derived.Test.YtakjpljpdlhicabDoorPg29
namespace Go.Proofs.YtakjpljpdlhicabDoor
open Go.RowKit Go.QK Go.Pg
set_option maxRecDepth 100000
set_option maxHeartbeats 32000000 in
theorem rdec_rest2 (a : Option Addr) (c n0 n1 n2 n3 n4 n5 n6 : Nat) (l : List Nat) (number : Int) (w : World) (hs : Bytes w a l) (hb : AllB l) (hn : ¬ (number < 0 ∨ 63 < number)) (hl : l.length = 1024) (hz : allZ l = false) (hh : takeN headS l = [n0, n1, n2, n3, n4, n5, n6]) (hk : n1 = 2) (he : headE [n0, n1, n2, n3, n4, n5, n6] number (psum l) = 0) :
    Calls Tryd.prog 14 #[.slice a 1024 c, .int .i64 number] w (RPost w l number) := by
  unfold RPost
  obtain ⟨j0, j1, j6, j2, j3, j3b, j5, j5b⟩ := headE_all he
  have j3c : n3 ≤ 84 := by rw [hk] at j3b; simpa using j3b
  obtain ⟨R, hR⟩ : ∃ R, R = l.drop 16 := ⟨_, rfl⟩
  have hRl : R.length = 1008 := by rw [hR, List.length_drop, hl]
  have hRb : AllB R := by rw [hR]; exact hb.drop 16
  obtain ⟨SE, hSE⟩ : ∃ e, e = slotsE [] (readG n3 R) := ⟨_, rfl⟩
  obtain ⟨RE, hRE⟩ : ∃ e, e = decE l number := ⟨_, rfl⟩
  obtain ⟨PP, hPP⟩ : ∃ e, e = decP l number := ⟨_, rfl⟩
  obtain ⟨az, haz⟩ : ∃ z, z = allZ (l.drop (16 + 12 * n3)) := ⟨_, rfl⟩
  have hpo0 : pageOf [n0, n1, n2, n3, n4, n5, n6] (l.drop 16) = ⟨(n2 : Int), (n5 : Int), [], readG n3 R⟩ := by rw [← hR]; simp [pageOf, hk]
  have hen : endOf [n0, n1, n2, n3, n4, n5, n6] = 12 * n3 := by simp [endOf, hk]
  have hRE2 : RE = if SE ≠ 0 then SE else if n4 ≠ 0 ∨ az = false then 23 else 0 := by
    rw [hRE, decE_head hn hl hz hh, if_neg (by simp [he]), hpo0, hen, hSE, haz, List.drop_drop]
  have hPP1 : RE ≠ 0 → PP = zeroP := by intro q; rw [hPP]; unfold decP; rw [← hRE, if_pos q]
  have hPP0 : RE = 0 → PP = ⟨(n2 : Int), (n5 : Int), [], readG n3 R⟩ := by intro q; rw [hPP]; unfold decP; rw [← hRE, q, if_neg (by simp), hz, if_neg (by simp), hh, hpo0]
  rw [← hRE, ← hPP]
  have CT := fun (av : Option Addr) (cv : Nat) w' (h : Lies w' av (grpsC (readG n3 R))) => content_any ⟨number, (n5 : Int), [], readG n3 R⟩ ⟨none, 0, av, cv⟩ w' (.inl rfl) h (by simp) (by simp [readG_length]; omega)
  simp only [pageV, readG_length, List.length_nil, ← hSE] at CT
  obtain ⟨t0, t1, t2, t3, t4, t5, t6⟩ := heads hl hh
  have d1 : decide (number < 0) = false := decide_eq_false (by omega)
  have d2 : decide (64 ≤ number) = false := decide_eq_false (by omega)
  have d3 : decide (number ≥ 64) = false := decide_eq_false (by omega)
  have RZ : ∀ w', Below w.heap.size w w' → Calls Tryd.prog 28 #[.slice a 1024 c, .int .i64 0] w' fun e w'' => e = .returned (.bool false) ∧ w'' = w' := by
    intro w' b
    have q := rzeros_any a c l 0 w' (hs.below b) hb (by omega) (Nat.zero_le _)
    rw [List.drop_zero, hz, hl] at q
    exact q
  have GT : ∀ w' (pos size : Nat), Below w.heap.size w w' → size ≤ 8 → pos + size ≤ 1024 → Calls Tryd.prog 29 #[.slice a 1024 c, .int .i64 (pos : Int), .int .i64 (size : Int)] w' fun e w'' => e = .returned (.int .u64 ((QK.fromB ((l.drop pos).take size) : Nat) : Int)) ∧ w'' = w' := by
    intro w' pos size b h8 h2
    have q := rget_any a c pos size l w' (hs.below b) hb (by omega) h8 (by omega)
    rw [hl] at q
    exact q
  have G4 : ∀ w', Below w.heap.size w w' → Calls Tryd.prog 29 #[.slice a 1024 c, .int .i64 4, .int .i64 2] w' fun e w'' => e = .returned (.int .u64 (n3 : Int)) ∧ w'' = w' := by rw [← t3]; exact fun w' b => GT w' 4 2 b (by decide) (by decide)
  have G8 : ∀ w', Below w.heap.size w w' → Calls Tryd.prog 29 #[.slice a 1024 c, .int .i64 8, .int .i64 4] w' fun e w'' => e = .returned (.int .u64 (n5 : Int)) ∧ w'' = w' := by rw [← t5]; exact fun w' b => GT w' 8 4 b (by decide) (by decide)
  have G12 : ∀ w', Below w.heap.size w w' → Calls Tryd.prog 29 #[.slice a 1024 c, .int .i64 12, .int .i64 4] w' fun e w'' => e = .returned (.int .u64 (n6 : Int)) ∧ w'' = w' := by rw [← t6]; exact fun w' b => GT w' 12 4 b (by decide) (by decide)
  have G2 : ∀ w', Below w.heap.size w w' → Calls Tryd.prog 29 #[.slice a 1024 c, .int .i64 2, .int .i64 2] w' fun e w'' => e = .returned (.int .u64 (n2 : Int)) ∧ w'' = w' := by rw [← t2]; exact fun w' b => GT w' 2 2 b (by decide) (by decide)
  have SM : ∀ w', Below w.heap.size w w' → Calls Tryd.prog 12 #[.slice a 1024 c] w' fun e w'' => e = .returned (.int .u32 ((psum l : Nat) : Int)) ∧ w'' = w' := fun w' b => rsum_any a c l w' (hs.below b) hb hl
  have hfit := takeN_fit headS l hb (by rw [hl]; decide)
  rw [hh] at hfit
  obtain ⟨u0, u1, u2, u3, u4, u5, u6, -⟩ := hfit
  have u3 : n3 < 65536 := u3
  have u5 : n5 < 4294967296 := lt4 u5
  have u6 : n6 < 4294967296 := lt4 u6
  have u2 : n2 < 65536 := u2
  have hps := psum_lt hb
  have e3 : IntKind.i64.wrap (n3 : Int) = (n3 : Int) := by rw [IntKind.wrap_i64]; omega
  have e5 : IntKind.i64.wrap (n5 : Int) = (n5 : Int) := by rw [IntKind.wrap_i64]; omega
  have esu : IntKind.u64.wrap ((psum l : Nat) : Int) = ((psum l : Nat) : Int) := by rw [IntKind.wrap_u64]; omega
  obtain ⟨nn, rfl⟩ : ∃ nn : Nat, number = (nn : Int) := ⟨number.toNat, by omega⟩
  have enn : IntKind.u64.wrap (nn : Int) = (nn : Int) := by rw [IntKind.wrap_u64]; omega
  obtain ⟨ab, ao, rfl, habl, hc0⟩ := hs.at (i := 0) (by omega)
  obtain ⟨ab', ao', hq, _, hc1⟩ := hs.at (i := 1) (by omega)
  simp only [Option.some.injEq, Addr.mk.injEq, and_true] at hq
  obtain ⟨rfl, rfl⟩ := hq
  rw [t0, Nat.add_zero] at hc0
  rw [t1] at hc1
  have CX := fun w' (b : Below w.heap.size w w') => (b.cell (p := ⟨ab, ao, none⟩) habl).trans hc0
  have CY := fun w' (b : Below w.heap.size w w') => (b.cell (p := ⟨ab, ao + 1, none⟩) habl).trans hc1
  have j2 : n2 = nn := by omega
  subst j2
  subst j0
  subst hk
  have RZ2 : ∀ w', Below w.heap.size w w' → Calls Tryd.prog 28 #[.slice (some ⟨ab, ao, none⟩) 1024 c, .int .i64 ((16 + 12 * n3 : Nat) : Int)] w' fun e w'' => e = .returned (.bool az) ∧ w'' = w' := by
    intro w' b
    have q := rzeros_any (some ⟨ab, ao, none⟩) c l (16 + 12 * n3) w' (hs.below b) hb (by omega) (by omega)
    rw [← haz, hl] at q
    exact q
  obtain ⟨_, _, hq6, _, hc6⟩ := hs.at (i := 6) (by omega)
  simp only [Option.some.injEq, Addr.mk.injEq, and_true] at hq6
  obtain ⟨rfl, rfl⟩ := hq6
  obtain ⟨_, _, hq7, _, hc7⟩ := hs.at (i := 7) (by omega)
  simp only [Option.some.injEq, Addr.mk.injEq, and_true] at hq7
  obtain ⟨rfl, rfl⟩ := hq7
  have C6x := fun w' (b : Below w.heap.size w w') => (b.cell (p := ⟨ab, ao + 6, none⟩) habl).trans hc6
  have C7x := fun w' (b : Below w.heap.size w w') => (b.cell (p := ⟨ab, ao + 7, none⟩) habl).trans hc7
  have TK : ∀ k, k < n3 → ∃ m0 m1, takeN grpS (R.drop (12 * k)) = [m0, m1] ∧ readG (k + 1) R = readG k R ++ [⟨sg m0, sg m1⟩] ∧ m0 < 18446744073709551616 ∧ m1 < 18446744073709551616 ∧ QK.fromB ((l.drop (16 + 12 * k + 0)).take 4) = m0 ∧ QK.fromB ((l.drop (16 + 12 * k + 4)).take 8) = m1 := by
    intro k hk
    have hf := takeN_fit grpS (R.drop (12 * k)) (hRb.drop _) (by rw [List.length_drop, hRl]; simp [grpS, total]; omega)
    obtain ⟨m0, m1, hm⟩ := two (takeN_length grpS (R.drop (12 * k)))
    have hsu := readG_succ k R
    rw [hm] at hf hsu
    obtain ⟨b0, b1, -⟩ := hf
    refine ⟨m0, m1, hm, hsu, Nat.lt_trans (lt4 b0) (by decide), lt8 b1, ?_⟩
    simp only [takeN, grpS, List.drop_drop, hR, List.cons.injEq, and_true] at hm
    obtain ⟨q0, q1⟩ := hm
    refine ⟨by rw [← q0]; congr 3, by rw [← q1]⟩
  have HTK := hide TK
  have HRE := hide hRE2
  have HPP1 := hide hPP1
  have HPP0 := hide hPP0
  have HSB := hide hs
  have H4 := hide t4
  clear TK hRE2 hPP1 hPP0 hRE hPP hpo0 hen hSE haz hRb hRl hR he hh hz hl hb hs t0 t1 t2 t3 t4 t5 t6 hc0 hc1 hc6 hc7 hn j1 j3b u0 u1 u4
  have X0 := CX _ (alloc_below w (.cells #[.int .i64 0, .int .i64 0, .slice none 0 0, .slice none 0 0] 31))
  have X1 := CY _ (alloc_below w (.cells #[.int .i64 0, .int .i64 0, .slice none 0 0, .slice none 0 0] 31))
  rw [j6] at G12
  generalize psum l = PS at *
  have g1 : decide ((n3 : Int) < 1) = false := decide_eq_false (by omega)
  have g2 : decide ((84 : Int) < (n3 : Int)) = false := decide_eq_false (by omega)
  have g3 : decide ((n5 : Int) < 1) = false := decide_eq_false (by omega)
  have g4 : decide ((2147483647 : Int) < (n5 : Int)) = false := decide_eq_false (by omega)
  go_enter Tryd.func14, Tryd.ntmps14
  go_wp2_with fail
  refine (RZ _ (alloc_below _ _)).mono ?_
  rintro e w1 ⟨rfl, rfl⟩
  go_wp2_with fail
  refine (G4 _ (alloc_below _ _)).mono ?_
  rintro e w1 ⟨rfl, rfl⟩
  go_wp2_with fail
  refine (G8 _ (alloc_below _ _)).mono ?_
  rintro e w1 ⟨rfl, rfl⟩
  go_wp2_with fail
  refine (G12 _ (alloc_below _ _)).mono ?_
  rintro e w1 ⟨rfl, rfl⟩
  go_wp2_with fail
  refine (SM _ (alloc_below _ _)).mono ?_
  rintro e w1 ⟨rfl, rfl⟩
  go_wp2_with fail
  refine (G2 _ (alloc_below _ _)).mono ?_
  rintro e w1 ⟨rfl, rfl⟩
  go_upto_region 23 with fail
  refine named (P := Code.wp _ _ _ _) ?_
  intro w2 hw2
  have rq0 : Rq w w2 39 2 0 [.int .i64 (n2 : Int), .int .i64 (n5 : Int), .slice none 0 0, .slice none 0 0] (.slice none 0 0) [] := by
    rw [hw2]
    have q2 := Cells.new (w.alloc (.cells #[.int .i64 0, .int .i64 0, .slice none 0 0, .slice none 0 0] 31)) #[.int .i64 (n2 : Int), .int .i64 (n5 : Int), .slice none 0 0, .slice none 0 0] 31
    simp only [World.size_alloc] at q2
    exact ⟨(Cells.new w _ _).below (alloc_below _ _), q2, World.ownsRow_nil _ _ _ _, bnext (alloc_below _ _) (alloc_below _ _) (Nat.le_refl _)⟩
  have R0 := hide rq0
  clear hw2 rq0 X0 X1 g1 g2 g3 g4
  go_wp2_with fail
  go_loopw [10, 11] (fun en i ws => ∃ (k : Nat) (v : Value), i = .int .i64 (k : Int) ∧ en = .int .i64 ((16 + 12 * k : Nat) : Int) ∧ k ≤ n3 ∧ Rq w ws 39 2 k [.int .i64 (n2 : Int), .int .i64 (n5 : Int), .slice none 0 0, v] v (grpsC (readG k R))) (fun _ i _ => n3 - (intOf i).toNat)
  case atStart => exact ⟨0, _, rfl, rfl, Nat.zero_le _, R0.out⟩
  case round =>
    obtain ⟨k, v, rfl, rfl, hk, hrq⟩ := hrel
    have X1 := CY wr hrq.bel
    have HQ := hide hrq
    by_cases hlt : k < n3
    · have f0 : decide ((k : Int) < (n3 : Int)) = true := by simp; omega
      obtain ⟨m0, m1, -, hsu, b0, b1, q0, q1⟩ := HTK.out k hlt
      obtain ⟨EN, hEN⟩ : ∃ EN, EN = 16 + 12 * k := ⟨_, rfl⟩
      rw [← hEN] at q0 q1 ⊢
      have GA0 : ∀ w', Below w.heap.size w w' → Calls Tryd.prog 29 #[.slice (some ⟨ab, ao, none⟩) 1024 c, .int .i64 (EN : Int), .int .i64 4] w' fun e w'' => e = .returned (.int .u64 (m0 : Int)) ∧ w'' = w' := by rw [← q0]; exact fun w' b => GT w' EN 4 b (by decide) (by omega)
      have s0 := wrap_sg b0
      have a4 : IntKind.i64.wrap ((EN : Int) + 4) = ((EN + 4 : Nat) : Int) := by rw [IntKind.wrap_i64]; omega
      have GA1 : ∀ w', Below w.heap.size w w' → Calls Tryd.prog 29 #[.slice (some ⟨ab, ao, none⟩) 1024 c, .int .i64 ((EN + 4 : Nat) : Int), .int .i64 8] w' fun e w'' => e = .returned (.int .u64 (m1 : Int)) ∧ w'' = w' := by rw [← q1]; exact fun w' b => GT w' (EN + 4) 8 b (by decide) (by omega)
      have s1 := wrap_sg b1
      generalize sg m0 = v0 at *
      generalize sg m1 = v1 at *
      have aW : IntKind.i64.wrap ((EN : Int) + 12) = ((16 + 12 * (k + 1) : Nat) : Int) := by rw [IntKind.wrap_i64, hEN]; omega
      have HSU := hide hsu
      have HBW := hide (show ∀ w', Below wr.heap.size wr w' → Below w.heap.size w w' from fun w' b => bnext hrq.bel b (Nat.le_refl _))
      clear hsu hrq q0 b0 q1 b1 hEN
      go_upto_region 31 with fail
      have Q6 := hide (HQ.out.below (Below.refl _ _).drew)
      have BW6 := hide ((HBW.out wr (Below.refl _ _)).drew)
      refine wp_region_held_drew (S := fun _ => True) (by kernel_rfl) trivial (fun hS => ?_)
      clear X1 HQ
      generalize wr.drew = w6 at *
      obtain ⟨gc, xc⟩ := Q6.out.page.get 3 _ rfl
      refine take_at 0 (some 135) (v := ?_) rfl rfl (by kernel_rfl) (by kernel_rfl) (by kernel_rfl) (fun _ _ _ h => h) ⟨by rfl, ?_⟩ hS ?_
      rotate_left
      · intro wq hSw; go_simp; try rfl
      simp only [Act.put, List.setIfInBounds_toArray, List.set_cons_zero, List.set_cons_succ]
      refine take_at 2 (some 137) (v := ?_) rfl rfl (by kernel_rfl) (by kernel_rfl) (by kernel_rfl) (fun _ _ _ h => h) ⟨by rfl, ?_⟩ hS ?_
      rotate_left
      · intro wq hSw; go_simp; try rfl
      simp only [Act.put, List.setIfInBounds_toArray, List.set_cons_zero, List.set_cons_succ]
      refine take_at 3 (some 138) (v := ?_) rfl rfl (by kernel_rfl) (by kernel_rfl) (by kernel_rfl) (fun _ _ _ h => h) ⟨by rfl, ?_⟩ hS ?_
      rotate_left
      · intro wq hSw; go_simp; try rfl
      simp only [Act.put, List.setIfInBounds_toArray, List.set_cons_zero, List.set_cons_succ]
      refine take_at 6 (some 141) (v := ?_) rfl rfl (by kernel_rfl) (by kernel_rfl) (by kernel_rfl) (fun _ _ _ h => h) ⟨by rfl, ?_⟩ hS ?_
      rotate_left
      · intro wq hSw; go_simp; try rfl
      simp only [Act.put, List.setIfInBounds_toArray, List.set_cons_zero, List.set_cons_succ]
      refine take_at 7 (some 142) (v := ?_) rfl rfl (by kernel_rfl) (by kernel_rfl) (by kernel_rfl) (fun _ _ _ h => h) ⟨by rfl, ?_⟩ hS ?_
      rotate_left
      · intro wq hSw; go_simp; try rfl
      simp only [Act.put, List.setIfInBounds_toArray, List.set_cons_zero, List.set_cons_succ]
      refine take_at 8 (some 143) (v := ?_) rfl rfl (by kernel_rfl) (by kernel_rfl) (by kernel_rfl) (fun _ _ _ h => h) ⟨by rfl, ?_⟩ hS ?_
      rotate_left
      · intro wq hSw; go_simp; try rfl
      simp only [Act.put, List.setIfInBounds_toArray, List.set_cons_zero, List.set_cons_succ]
      refine wpAnyH_ready (rs := [1, 4]) (by kernel_rfl) (by simp) ?_
      refine AllReadyH.cons rfl (fun K hK => ?_) (AllReadyH.cons rfl (fun K hK => ?_) AllReadyH.nil)
      · go_simp
        go_wp2_with fail
        refine hK.out _ _ trivial (fun hS => ?_)
        clear hK K
        (try simp only [Act.put, List.setIfInBounds_toArray, List.set_cons_zero, List.set_cons_succ])
        refine wpAnyH_ready (rs := [4]) (by kernel_rfl) (by simp) ?_
        refine AllReadyH.cons rfl (fun K hK => ?_) AllReadyH.nil
        go_simp
        go_wp2_with fail
        refine (GA0 w6 BW6.out).mono ?_
        rintro e w7 ⟨rfl, hw7⟩
        obtain rfl : w6 = w7 := hw7.symm
        clear hw7
        go_wp2_with fail
        refine hK.out _ _ trivial (fun hS => ?_)
        clear hK K
        (try simp only [Act.put, List.setIfInBounds_toArray, List.set_cons_zero, List.set_cons_succ])
        refine take_at 5 (some 140) (v := ?_) rfl rfl (by kernel_rfl) (by kernel_rfl) (by kernel_rfl) (fun _ _ _ h => h) ⟨by rfl, ?_⟩ hS ?_
        rotate_left
        · intro wq hSw; go_simp; try rfl
        simp only [Act.put, List.setIfInBounds_toArray, List.set_cons_zero, List.set_cons_succ]
        refine wpAnyH_ready (rs := [9]) (by kernel_rfl) (by simp) ?_
        refine AllReadyH.cons rfl (fun K hK => ?_) AllReadyH.nil
        go_simp
        go_wp2_with fail
        refine (GA1 w6 BW6.out).mono ?_
        rintro e w7 ⟨rfl, hw7⟩
        obtain rfl : w6 = w7 := hw7.symm
        clear hw7
        go_wp2_with fail
        refine hK.out _ _ trivial (fun hS => ?_)
        clear hK K
        (try simp only [Act.put, List.setIfInBounds_toArray, List.set_cons_zero, List.set_cons_succ])
        refine take_at 10 (some 145) (v := ?_) rfl rfl (by kernel_rfl) (by kernel_rfl) (by kernel_rfl) (fun _ _ _ h => h) ⟨by rfl, ?_⟩ hS ?_
        rotate_left
        · intro wq hSw; go_simp; try rfl
        simp only [Act.put, List.setIfInBounds_toArray, List.set_cons_zero, List.set_cons_succ]
        refine take_at 11 (some 146) (v := ?_) rfl rfl (by kernel_rfl) (by kernel_rfl) (by kernel_rfl) (fun _ _ _ h => h) ⟨by rfl, ?_⟩ hS ?_
        rotate_left
        · intro wq hSw; go_simp; try rfl
        simp only [Act.put, List.setIfInBounds_toArray, List.set_cons_zero, List.set_cons_succ]
        refine wpAnyH_ready (rs := [12]) (by kernel_rfl) (by simp) ?_
        refine AllReadyH.cons rfl (fun K hK => ?_) AllReadyH.nil
        go_simp
        go_wp2_with fail
        have Q7 := hide (Q6.out.below (alloc_below w6 (.cells #[.int .i64 v0, .int .i64 v1] 39)))
        have hlie : Lies (w6.alloc (.cells #[.int .i64 v0, .int .i64 v1] 39)) (some ⟨w6.heap.size, 0, none⟩) (grpC ⟨v0, v1⟩) := .inr ⟨w6.heap.size, 0, rfl, by simp, fun i hx => by rw [Nat.zero_add]; exact ((Cells.new w6 #[.int .i64 v0, .int .i64 v1] 39).get i _ (List.getElem?_eq_getElem hx)).1⟩
        obtain ⟨ge, xe⟩ := Q7.out.page.get 3 _ rfl
        obtain ⟨v', w8, hrun, hr8, hg8, hv8⟩ := run_pushR Tryd.underlying23 info59 rfl (by decide) (by decide) 25 (w6.alloc (.cells #[.int .i64 v0, .int .i64 v1] 39)) (w.heap.size + 2) v k (grpsC (readG k R)) Q7.out.row ⟨w6.heap.size, 0, none⟩ 1 1 (grpC ⟨v0, v1⟩) rfl hlie (by intro u hu; simp [grpC] at hu; rcases hu with rfl | rfl <;> rfl) (by omega) (by have := Q7.out.page.1; omega)
        obtain ⟨av, cv, rfl, -, -, -, -, -⟩ := GRow.lies hr8
        have Q8 := hide (Q7.out.grown hg8 hr8)
        have HRUN := hide hrun
        clear hrun hlie hg8 hr8 hv8 gc xc
        refine hK.out _ _ trivial (fun hS => ?_)
        clear hK K
        (try simp only [Act.put, List.setIfInBounds_toArray, List.set_cons_zero, List.set_cons_succ])
        refine wpAnyH_ready (rs := [13]) (by kernel_rfl) (by simp) ?_
        refine AllReadyH.cons rfl (fun K hK => ?_) AllReadyH.nil
        refine wp_run 148 (.tmp 136) (.tmp 147) rfl rfl rfl rfl rfl HRUN.out ?_
        refine hK.out _ _ trivial (fun hS => ?_)
        clear hK K
        (try simp only [Act.put, List.setIfInBounds_toArray, List.set_cons_zero, List.set_cons_succ])
        refine take_at 14 (some 149) (v := ?_) rfl rfl (by kernel_rfl) (by kernel_rfl) (by kernel_rfl) (fun _ _ _ h => h) ⟨by rfl, ?_⟩ hS ?_
        rotate_left
        · intro wq hSw; go_simp; try rfl
        simp only [Act.put, List.setIfInBounds_toArray, List.set_cons_zero, List.set_cons_succ]
        obtain ⟨gf, xf⟩ := Q8.out.page.get 3 _ rfl
        have Q9 := hide (Q8.out.stored (j := 3) (u := .slice av (k + 1) cv) (by simp))
        refine wpAnyH_ready (rs := [15]) (by kernel_rfl) (by simp) ?_
        refine AllReadyH.cons rfl (fun K hK => ?_) AllReadyH.nil
        go_simp
        go_wp2_with fail
        refine hK.out _ _ trivial (fun hS => ?_)
        clear hK K
        (try simp only [Act.put, List.setIfInBounds_toArray, List.set_cons_zero, List.set_cons_succ])
        refine wpAnyH_done (by kernel_rfl) ?_ _
        go_wp2_with fail
        go_roundw
        case rel =>
          refine ⟨k + 1, .slice av (k + 1) cv, by go_num, rfl, by omega, ?_⟩
          have q2 := Q9.out
          have q3 : grpsC (readG (k + 1) R) = grpsC (readG k R) ++ grpC ⟨v0, v1⟩ := by rw [HSU.out]; exact rowsC_snoc _ _ _
          rw [q3]
          exact q2
        case measure => simp [intOf]; omega
      · go_simp
        go_wp2_with fail
        refine (GA0 w6 BW6.out).mono ?_
        rintro e w7 ⟨rfl, hw7⟩
        obtain rfl : w6 = w7 := hw7.symm
        clear hw7
        go_wp2_with fail
        refine hK.out _ _ trivial (fun hS => ?_)
        clear hK K
        (try simp only [Act.put, List.setIfInBounds_toArray, List.set_cons_zero, List.set_cons_succ])
        refine take_at 5 (some 140) (v := ?_) rfl rfl (by kernel_rfl) (by kernel_rfl) (by kernel_rfl) (fun _ _ _ h => h) ⟨by rfl, ?_⟩ hS ?_
        rotate_left
        · intro wq hSw; go_simp; try rfl
        simp only [Act.put, List.setIfInBounds_toArray, List.set_cons_zero, List.set_cons_succ]
        refine wpAnyH_ready (rs := [1, 9]) (by kernel_rfl) (by simp) ?_
        refine AllReadyH.cons rfl (fun K hK => ?_) (AllReadyH.cons rfl (fun K hK => ?_) AllReadyH.nil)
        · go_simp
          go_wp2_with fail
          refine hK.out _ _ trivial (fun hS => ?_)
          clear hK K
          (try simp only [Act.put, List.setIfInBounds_toArray, List.set_cons_zero, List.set_cons_succ])
          refine wpAnyH_ready (rs := [9]) (by kernel_rfl) (by simp) ?_
          refine AllReadyH.cons rfl (fun K hK => ?_) AllReadyH.nil
          go_simp
          go_wp2_with fail
          refine (GA1 w6 BW6.out).mono ?_
          rintro e w7 ⟨rfl, hw7⟩
          obtain rfl : w6 = w7 := hw7.symm
          clear hw7
          go_wp2_with fail
          refine hK.out _ _ trivial (fun hS => ?_)
          clear hK K
          (try simp only [Act.put, List.setIfInBounds_toArray, List.set_cons_zero, List.set_cons_succ])
          refine take_at 10 (some 145) (v := ?_) rfl rfl (by kernel_rfl) (by kernel_rfl) (by kernel_rfl) (fun _ _ _ h => h) ⟨by rfl, ?_⟩ hS ?_
          rotate_left
          · intro wq hSw; go_simp; try rfl
          simp only [Act.put, List.setIfInBounds_toArray, List.set_cons_zero, List.set_cons_succ]
          refine take_at 11 (some 146) (v := ?_) rfl rfl (by kernel_rfl) (by kernel_rfl) (by kernel_rfl) (fun _ _ _ h => h) ⟨by rfl, ?_⟩ hS ?_
          rotate_left
          · intro wq hSw; go_simp; try rfl
          simp only [Act.put, List.setIfInBounds_toArray, List.set_cons_zero, List.set_cons_succ]
          refine wpAnyH_ready (rs := [12]) (by kernel_rfl) (by simp) ?_
          refine AllReadyH.cons rfl (fun K hK => ?_) AllReadyH.nil
          go_simp
          go_wp2_with fail
          have Q7 := hide (Q6.out.below (alloc_below w6 (.cells #[.int .i64 v0, .int .i64 v1] 39)))
          have hlie : Lies (w6.alloc (.cells #[.int .i64 v0, .int .i64 v1] 39)) (some ⟨w6.heap.size, 0, none⟩) (grpC ⟨v0, v1⟩) := .inr ⟨w6.heap.size, 0, rfl, by simp, fun i hx => by rw [Nat.zero_add]; exact ((Cells.new w6 #[.int .i64 v0, .int .i64 v1] 39).get i _ (List.getElem?_eq_getElem hx)).1⟩
          obtain ⟨ge, xe⟩ := Q7.out.page.get 3 _ rfl
          obtain ⟨v', w8, hrun, hr8, hg8, hv8⟩ := run_pushR Tryd.underlying23 info59 rfl (by decide) (by decide) 25 (w6.alloc (.cells #[.int .i64 v0, .int .i64 v1] 39)) (w.heap.size + 2) v k (grpsC (readG k R)) Q7.out.row ⟨w6.heap.size, 0, none⟩ 1 1 (grpC ⟨v0, v1⟩) rfl hlie (by intro u hu; simp [grpC] at hu; rcases hu with rfl | rfl <;> rfl) (by omega) (by have := Q7.out.page.1; omega)
          obtain ⟨av, cv, rfl, -, -, -, -, -⟩ := GRow.lies hr8
          have Q8 := hide (Q7.out.grown hg8 hr8)
          have HRUN := hide hrun
          clear hrun hlie hg8 hr8 hv8 gc xc
          refine hK.out _ _ trivial (fun hS => ?_)
          clear hK K
          (try simp only [Act.put, List.setIfInBounds_toArray, List.set_cons_zero, List.set_cons_succ])
          refine wpAnyH_ready (rs := [13]) (by kernel_rfl) (by simp) ?_
          refine AllReadyH.cons rfl (fun K hK => ?_) AllReadyH.nil
          refine wp_run 148 (.tmp 136) (.tmp 147) rfl rfl rfl rfl rfl HRUN.out ?_
          refine hK.out _ _ trivial (fun hS => ?_)
          clear hK K
          (try simp only [Act.put, List.setIfInBounds_toArray, List.set_cons_zero, List.set_cons_succ])
          refine take_at 14 (some 149) (v := ?_) rfl rfl (by kernel_rfl) (by kernel_rfl) (by kernel_rfl) (fun _ _ _ h => h) ⟨by rfl, ?_⟩ hS ?_
          rotate_left
          · intro wq hSw; go_simp; try rfl
          simp only [Act.put, List.setIfInBounds_toArray, List.set_cons_zero, List.set_cons_succ]
          obtain ⟨gf, xf⟩ := Q8.out.page.get 3 _ rfl
          have Q9 := hide (Q8.out.stored (j := 3) (u := .slice av (k + 1) cv) (by simp))
          refine wpAnyH_ready (rs := [15]) (by kernel_rfl) (by simp) ?_
          refine AllReadyH.cons rfl (fun K hK => ?_) AllReadyH.nil
          go_simp
          go_wp2_with fail
          refine hK.out _ _ trivial (fun hS => ?_)
          clear hK K
          (try simp only [Act.put, List.setIfInBounds_toArray, List.set_cons_zero, List.set_cons_succ])
          refine wpAnyH_done (by kernel_rfl) ?_ _
          go_wp2_with fail
          go_roundw
          case rel =>
            refine ⟨k + 1, .slice av (k + 1) cv, by go_num, rfl, by omega, ?_⟩
            have q2 := Q9.out
            have q3 : grpsC (readG (k + 1) R) = grpsC (readG k R) ++ grpC ⟨v0, v1⟩ := by rw [HSU.out]; exact rowsC_snoc _ _ _
            rw [q3]
            exact q2
          case measure => simp [intOf]; omega
        · go_simp
          go_wp2_with fail
          refine (GA1 w6 BW6.out).mono ?_
          rintro e w7 ⟨rfl, hw7⟩
          obtain rfl : w6 = w7 := hw7.symm
          clear hw7
          go_wp2_with fail
          refine hK.out _ _ trivial (fun hS => ?_)
          clear hK K
          (try simp only [Act.put, List.setIfInBounds_toArray, List.set_cons_zero, List.set_cons_succ])
          refine take_at 10 (some 145) (v := ?_) rfl rfl (by kernel_rfl) (by kernel_rfl) (by kernel_rfl) (fun _ _ _ h => h) ⟨by rfl, ?_⟩ hS ?_
          rotate_left
          · intro wq hSw; go_simp; try rfl
          simp only [Act.put, List.setIfInBounds_toArray, List.set_cons_zero, List.set_cons_succ]
          refine take_at 11 (some 146) (v := ?_) rfl rfl (by kernel_rfl) (by kernel_rfl) (by kernel_rfl) (fun _ _ _ h => h) ⟨by rfl, ?_⟩ hS ?_
          rotate_left
          · intro wq hSw; go_simp; try rfl
          simp only [Act.put, List.setIfInBounds_toArray, List.set_cons_zero, List.set_cons_succ]
          refine wpAnyH_ready (rs := [1, 12]) (by kernel_rfl) (by simp) ?_
          refine AllReadyH.cons rfl (fun K hK => ?_) (AllReadyH.cons rfl (fun K hK => ?_) AllReadyH.nil)
          · go_simp
            go_wp2_with fail
            refine hK.out _ _ trivial (fun hS => ?_)
            clear hK K
            (try simp only [Act.put, List.setIfInBounds_toArray, List.set_cons_zero, List.set_cons_succ])
            refine wpAnyH_ready (rs := [12]) (by kernel_rfl) (by simp) ?_
            refine AllReadyH.cons rfl (fun K hK => ?_) AllReadyH.nil
            go_simp
            go_wp2_with fail
            have Q7 := hide (Q6.out.below (alloc_below w6 (.cells #[.int .i64 v0, .int .i64 v1] 39)))
            have hlie : Lies (w6.alloc (.cells #[.int .i64 v0, .int .i64 v1] 39)) (some ⟨w6.heap.size, 0, none⟩) (grpC ⟨v0, v1⟩) := .inr ⟨w6.heap.size, 0, rfl, by simp, fun i hx => by rw [Nat.zero_add]; exact ((Cells.new w6 #[.int .i64 v0, .int .i64 v1] 39).get i _ (List.getElem?_eq_getElem hx)).1⟩
            obtain ⟨ge, xe⟩ := Q7.out.page.get 3 _ rfl
            obtain ⟨v', w8, hrun, hr8, hg8, hv8⟩ := run_pushR Tryd.underlying23 info59 rfl (by decide) (by decide) 25 (w6.alloc (.cells #[.int .i64 v0, .int .i64 v1] 39)) (w.heap.size + 2) v k (grpsC (readG k R)) Q7.out.row ⟨w6.heap.size, 0, none⟩ 1 1 (grpC ⟨v0, v1⟩) rfl hlie (by intro u hu; simp [grpC] at hu; rcases hu with rfl | rfl <;> rfl) (by omega) (by have := Q7.out.page.1; omega)
            obtain ⟨av, cv, rfl, -, -, -, -, -⟩ := GRow.lies hr8
            have Q8 := hide (Q7.out.grown hg8 hr8)
            have HRUN := hide hrun
            clear hrun hlie hg8 hr8 hv8 gc xc
            refine hK.out _ _ trivial (fun hS => ?_)
            clear hK K
            (try simp only [Act.put, List.setIfInBounds_toArray, List.set_cons_zero, List.set_cons_succ])
            refine wpAnyH_ready (rs := [13]) (by kernel_rfl) (by simp) ?_
            refine AllReadyH.cons rfl (fun K hK => ?_) AllReadyH.nil
            refine wp_run 148 (.tmp 136) (.tmp 147) rfl rfl rfl rfl rfl HRUN.out ?_
            refine hK.out _ _ trivial (fun hS => ?_)
            clear hK K
            (try simp only [Act.put, List.setIfInBounds_toArray, List.set_cons_zero, List.set_cons_succ])
            refine take_at 14 (some 149) (v := ?_) rfl rfl (by kernel_rfl) (by kernel_rfl) (by kernel_rfl) (fun _ _ _ h => h) ⟨by rfl, ?_⟩ hS ?_
            rotate_left
            · intro wq hSw; go_simp; try rfl
            simp only [Act.put, List.setIfInBounds_toArray, List.set_cons_zero, List.set_cons_succ]
            obtain ⟨gf, xf⟩ := Q8.out.page.get 3 _ rfl
            have Q9 := hide (Q8.out.stored (j := 3) (u := .slice av (k + 1) cv) (by simp))
            refine wpAnyH_ready (rs := [15]) (by kernel_rfl) (by simp) ?_
            refine AllReadyH.cons rfl (fun K hK => ?_) AllReadyH.nil
            go_simp
            go_wp2_with fail
            refine hK.out _ _ trivial (fun hS => ?_)
            clear hK K
            (try simp only [Act.put, List.setIfInBounds_toArray, List.set_cons_zero, List.set_cons_succ])
            refine wpAnyH_done (by kernel_rfl) ?_ _
            go_wp2_with fail
            go_roundw
            case rel =>
              refine ⟨k + 1, .slice av (k + 1) cv, by go_num, rfl, by omega, ?_⟩
              have q2 := Q9.out
              have q3 : grpsC (readG (k + 1) R) = grpsC (readG k R) ++ grpC ⟨v0, v1⟩ := by rw [HSU.out]; exact rowsC_snoc _ _ _
              rw [q3]
              exact q2
            case measure => simp [intOf]; omega
          · go_simp
            go_wp2_with fail
            have Q7 := hide (Q6.out.below (alloc_below w6 (.cells #[.int .i64 v0, .int .i64 v1] 39)))
            have hlie : Lies (w6.alloc (.cells #[.int .i64 v0, .int .i64 v1] 39)) (some ⟨w6.heap.size, 0, none⟩) (grpC ⟨v0, v1⟩) := .inr ⟨w6.heap.size, 0, rfl, by simp, fun i hx => by rw [Nat.zero_add]; exact ((Cells.new w6 #[.int .i64 v0, .int .i64 v1] 39).get i _ (List.getElem?_eq_getElem hx)).1⟩
            obtain ⟨ge, xe⟩ := Q7.out.page.get 3 _ rfl
            obtain ⟨v', w8, hrun, hr8, hg8, hv8⟩ := run_pushR Tryd.underlying23 info59 rfl (by decide) (by decide) 25 (w6.alloc (.cells #[.int .i64 v0, .int .i64 v1] 39)) (w.heap.size + 2) v k (grpsC (readG k R)) Q7.out.row ⟨w6.heap.size, 0, none⟩ 1 1 (grpC ⟨v0, v1⟩) rfl hlie (by intro u hu; simp [grpC] at hu; rcases hu with rfl | rfl <;> rfl) (by omega) (by have := Q7.out.page.1; omega)
            obtain ⟨av, cv, rfl, -, -, -, -, -⟩ := GRow.lies hr8
            have Q8 := hide (Q7.out.grown hg8 hr8)
            have HRUN := hide hrun
            clear hrun hlie hg8 hr8 hv8 gc xc
            refine hK.out _ _ trivial (fun hS => ?_)
            clear hK K
            (try simp only [Act.put, List.setIfInBounds_toArray, List.set_cons_zero, List.set_cons_succ])
            refine wpAnyH_ready (rs := [1]) (by kernel_rfl) (by simp) ?_
            refine AllReadyH.cons rfl (fun K hK => ?_) AllReadyH.nil
            go_simp
            go_wp2_with fail
            refine hK.out _ _ trivial (fun hS => ?_)
            clear hK K
            (try simp only [Act.put, List.setIfInBounds_toArray, List.set_cons_zero, List.set_cons_succ])
            refine wpAnyH_ready (rs := [13]) (by kernel_rfl) (by simp) ?_
            refine AllReadyH.cons rfl (fun K hK => ?_) AllReadyH.nil
            refine wp_run 148 (.tmp 136) (.tmp 147) rfl rfl rfl rfl rfl HRUN.out ?_
            refine hK.out _ _ trivial (fun hS => ?_)
            clear hK K
            (try simp only [Act.put, List.setIfInBounds_toArray, List.set_cons_zero, List.set_cons_succ])
            refine take_at 14 (some 149) (v := ?_) rfl rfl (by kernel_rfl) (by kernel_rfl) (by kernel_rfl) (fun _ _ _ h => h) ⟨by rfl, ?_⟩ hS ?_
            rotate_left
            · intro wq hSw; go_simp; try rfl
            simp only [Act.put, List.setIfInBounds_toArray, List.set_cons_zero, List.set_cons_succ]
            obtain ⟨gf, xf⟩ := Q8.out.page.get 3 _ rfl
            have Q9 := hide (Q8.out.stored (j := 3) (u := .slice av (k + 1) cv) (by simp))
            refine wpAnyH_ready (rs := [15]) (by kernel_rfl) (by simp) ?_
            refine AllReadyH.cons rfl (fun K hK => ?_) AllReadyH.nil
            go_simp
            go_wp2_with fail
            refine hK.out _ _ trivial (fun hS => ?_)
            clear hK K
            (try simp only [Act.put, List.setIfInBounds_toArray, List.set_cons_zero, List.set_cons_succ])
            refine wpAnyH_done (by kernel_rfl) ?_ _
            go_wp2_with fail
            go_roundw
            case rel =>
              refine ⟨k + 1, .slice av (k + 1) cv, by go_num, rfl, by omega, ?_⟩
              have q2 := Q9.out
              have q3 : grpsC (readG (k + 1) R) = grpsC (readG k R) ++ grpC ⟨v0, v1⟩ := by rw [HSU.out]; exact rowsC_snoc _ _ _
              rw [q3]
              exact q2
            case measure => simp [intOf]; omega
    · obtain rfl : k = n3 := by omega
      obtain ⟨av, cv, rfl, hlie, -, -, -, -⟩ := GRow.lies hrq.row
      obtain ⟨p0', -⟩ := hrq.page.get 0 _ rfl
      obtain ⟨p1', -⟩ := hrq.page.get 1 _ rfl
      obtain ⟨p2', -⟩ := hrq.page.get 2 _ rfl
      obtain ⟨p3', -⟩ := hrq.page.get 3 _ rfl
      have CT3 := CT av cv wr hlie
      clear hlie hrq X1
      go_wp2_with fail
      refine CT3.mono ?_
      rintro e w3 ⟨rfl, b3⟩
      have Q3 := hide (HQ.out.below b3)
      have hzz := World.ownsRow.lt Q3.out.row
      have HROW := hide (show ∀ g, (Value.slice av k cv).ownBlock = some g → g ≠ w.heap.size from fun g hg q => by have := (hzz g hg).1; omega)
      have Y6 := C6x w3 Q3.out.bel
      have Y7 := C7x w3 Q3.out.bel
      have R3 := RZ2 w3 Q3.out.bel
      clear p0' p1' p2' p3' CT3 b3 hzz HQ R0 HTK CT G4 G8 G12 G2 SM RZ GT CX CY C6x C7x RZ2 HSB
      generalize l.getD 6 0 = x6 at *
      generalize l.getD 7 0 = x7 at *
      obtain ⟨z0, zx0⟩ := Q3.out.zero.get 0 _ rfl
      obtain ⟨z1, zx1⟩ := Q3.out.zero.get 1 _ rfl
      obtain ⟨z2, zx2⟩ := Q3.out.zero.get 2 _ rfl
      obtain ⟨z3, zx3⟩ := Q3.out.zero.get 3 _ rfl
      obtain ⟨p0', -⟩ := Q3.out.page.get 0 _ rfl
      obtain ⟨p1', -⟩ := Q3.out.page.get 1 _ rfl
      obtain ⟨p2', -⟩ := Q3.out.page.get 2 _ rfl
      obtain ⟨p3', -⟩ := Q3.out.page.get 3 _ rfl
      by_cases hse : SE = 0
      case neg =>
        have hd : (SE != 0) = true := by simp; exact hse
        have HV := hide (show RE = SE from by rw [HRE.out]; rw [if_pos hse])
        have HVP := hide (HPP1.out (by rw [HV.out]; exact hse))
        have K11 := (((((Keep.refl (fun i => i = w.heap.size) w3).setCell (g := w.heap.size) (j := 0) (fun _ => rfl) (.int .i64 0)).setCell (g := w.heap.size) (j := 1) (fun _ => rfl) (.int .i64 0)).setCell (g := w.heap.size) (j := 2) (fun _ => rfl) (.slice none 0 0)).setCell (g := w.heap.size) (j := 3) (fun _ => rfl) (.slice none 0 0))
        have C11 := ((((Q3.out.zero.stored (j := 0) (by simp) (.int .i64 0)).stored (j := 1) (by simp) (.int .i64 0)).stored (j := 2) (by simp) (.slice none 0 0)).stored (j := 3) (by simp) (.slice none 0 0))
        obtain ⟨k0, _⟩ := C11.get 0 _ rfl
        obtain ⟨k1, _⟩ := C11.get 1 _ rfl
        obtain ⟨k2, _⟩ := C11.get 2 _ rfl
        obtain ⟨k3, _⟩ := C11.get 3 _ rfl
        have BF := hide (Q3.out.bel.trans (K11.below Q3.out.bel.size (fun i hi q => by omega)))
        clear K11 C11
        go_wp2_with fail
        refine bodyPost_ret (v := .tuple #[.agg #[.int .i64 0, .int .i64 0, .slice none 0 0, .slice none 0 0], .int .i64 SE]) (by simp only [results, Tryd.results14]; simp [go_sem, k0, k1, k2, k3]) rfl ?_
        refine ⟨_, by rw [HV.out], ?_, BF.out⟩
        rw [HVP.out]
        exact PageOut.nil _ _ _
      subst hse
      by_cases h6 : x6 = 0
      case neg =>
        have hd : ((x6 : Int) != 0) = true := by simp; omega
        have HV := hide (show RE = 23 from by rw [HRE.out]; rw [if_neg (by simp), if_pos (Or.inl (by have := H4.out; omega))])
        have HVP := hide (HPP1.out (by rw [HV.out]; decide))
        have K11 := (((((Keep.refl (fun i => i = w.heap.size) w3).setCell (g := w.heap.size) (j := 0) (fun _ => rfl) (.int .i64 0)).setCell (g := w.heap.size) (j := 1) (fun _ => rfl) (.int .i64 0)).setCell (g := w.heap.size) (j := 2) (fun _ => rfl) (.slice none 0 0)).setCell (g := w.heap.size) (j := 3) (fun _ => rfl) (.slice none 0 0))
        have C11 := ((((Q3.out.zero.stored (j := 0) (by simp) (.int .i64 0)).stored (j := 1) (by simp) (.int .i64 0)).stored (j := 2) (by simp) (.slice none 0 0)).stored (j := 3) (by simp) (.slice none 0 0))
        obtain ⟨k0, _⟩ := C11.get 0 _ rfl
        obtain ⟨k1, _⟩ := C11.get 1 _ rfl
        obtain ⟨k2, _⟩ := C11.get 2 _ rfl
        obtain ⟨k3, _⟩ := C11.get 3 _ rfl
        have BF := hide (Q3.out.bel.trans (K11.below Q3.out.bel.size (fun i hi q => by omega)))
        clear K11 C11
        go_wp2_with fail
        refine bodyPost_ret (v := .tuple #[.agg #[.int .i64 0, .int .i64 0, .slice none 0 0, .slice none 0 0], .int .i64 23]) (by simp only [results, Tryd.results14]; simp [go_sem, k0, k1, k2, k3]) rfl ?_
        refine ⟨_, by rw [HV.out], ?_, BF.out⟩
        rw [HVP.out]
        exact PageOut.nil _ _ _
      subst h6
      by_cases h7 : x7 = 0
      case neg =>
        have hd : ((x7 : Int) != 0) = true := by simp; omega
        have HV := hide (show RE = 23 from by rw [HRE.out]; rw [if_neg (by simp), if_pos (Or.inl (by have := H4.out; omega))])
        have HVP := hide (HPP1.out (by rw [HV.out]; decide))
        have K11 := (((((Keep.refl (fun i => i = w.heap.size) w3).setCell (g := w.heap.size) (j := 0) (fun _ => rfl) (.int .i64 0)).setCell (g := w.heap.size) (j := 1) (fun _ => rfl) (.int .i64 0)).setCell (g := w.heap.size) (j := 2) (fun _ => rfl) (.slice none 0 0)).setCell (g := w.heap.size) (j := 3) (fun _ => rfl) (.slice none 0 0))
        have C11 := ((((Q3.out.zero.stored (j := 0) (by simp) (.int .i64 0)).stored (j := 1) (by simp) (.int .i64 0)).stored (j := 2) (by simp) (.slice none 0 0)).stored (j := 3) (by simp) (.slice none 0 0))
        obtain ⟨k0, _⟩ := C11.get 0 _ rfl
        obtain ⟨k1, _⟩ := C11.get 1 _ rfl
        obtain ⟨k2, _⟩ := C11.get 2 _ rfl
        obtain ⟨k3, _⟩ := C11.get 3 _ rfl
        have BF := hide (Q3.out.bel.trans (K11.below Q3.out.bel.size (fun i hi q => by omega)))
        clear K11 C11
        go_wp2_with fail
        refine bodyPost_ret (v := .tuple #[.agg #[.int .i64 0, .int .i64 0, .slice none 0 0, .slice none 0 0], .int .i64 23]) (by simp only [results, Tryd.results14]; simp [go_sem, k0, k1, k2, k3]) rfl ?_
        refine ⟨_, by rw [HV.out], ?_, BF.out⟩
        rw [HVP.out]
        exact PageOut.nil _ _ _
      subst h7
      obtain rfl : n4 = 0 := by have := H4.out; omega
      cases az with
      | false =>
        have HV := hide (show RE = 23 from by rw [HRE.out]; simp)
        have HVP := hide (HPP1.out (by rw [HV.out]; decide))
        have K11 := (((((Keep.refl (fun i => i = w.heap.size) w3).setCell (g := w.heap.size) (j := 0) (fun _ => rfl) (.int .i64 0)).setCell (g := w.heap.size) (j := 1) (fun _ => rfl) (.int .i64 0)).setCell (g := w.heap.size) (j := 2) (fun _ => rfl) (.slice none 0 0)).setCell (g := w.heap.size) (j := 3) (fun _ => rfl) (.slice none 0 0))
        have C11 := ((((Q3.out.zero.stored (j := 0) (by simp) (.int .i64 0)).stored (j := 1) (by simp) (.int .i64 0)).stored (j := 2) (by simp) (.slice none 0 0)).stored (j := 3) (by simp) (.slice none 0 0))
        obtain ⟨k0, _⟩ := C11.get 0 _ rfl
        obtain ⟨k1, _⟩ := C11.get 1 _ rfl
        obtain ⟨k2, _⟩ := C11.get 2 _ rfl
        obtain ⟨k3, _⟩ := C11.get 3 _ rfl
        have BF := hide (Q3.out.bel.trans (K11.below Q3.out.bel.size (fun i hi q => by omega)))
        clear K11 C11
        go_wp2_with fail
        refine R3.mono ?_
        rintro e w4 ⟨rfl, hw4⟩
        obtain rfl : w3 = w4 := hw4.symm
        clear hw4
        go_wp2_with fail
        refine bodyPost_ret (v := .tuple #[.agg #[.int .i64 0, .int .i64 0, .slice none 0 0, .slice none 0 0], .int .i64 23]) (by simp only [results, Tryd.results14]; simp [go_sem, k0, k1, k2, k3]) rfl ?_
        refine ⟨_, by rw [HV.out], ?_, BF.out⟩
        rw [HVP.out]
        exact PageOut.nil _ _ _
      | true =>
        have HV := hide (show RE = 0 from by rw [HRE.out]; simp)
        have HVP := hide (HPP0.out HV.out)
        have K11 := (((((Keep.refl (fun i => i = w.heap.size) w3).setCell (g := w.heap.size) (j := 0) (fun _ => rfl) (.int .i64 (n2 : Int))).setCell (g := w.heap.size) (j := 1) (fun _ => rfl) (.int .i64 (n5 : Int))).setCell (g := w.heap.size) (j := 2) (fun _ => rfl) (.slice none 0 0)).setCell (g := w.heap.size) (j := 3) (fun _ => rfl) (.slice av k cv))
        have C11 := ((((Q3.out.zero.stored (j := 0) (by simp) (.int .i64 (n2 : Int))).stored (j := 1) (by simp) (.int .i64 (n5 : Int))).stored (j := 2) (by simp) (.slice none 0 0)).stored (j := 3) (by simp) (.slice av k cv))
        obtain ⟨k0, _⟩ := C11.get 0 _ rfl
        obtain ⟨k1, _⟩ := C11.get 1 _ rfl
        obtain ⟨k2, _⟩ := C11.get 2 _ rfl
        obtain ⟨k3, _⟩ := C11.get 3 _ rfl
        have BF := hide (Q3.out.bel.trans (K11.below Q3.out.bel.size (fun i hi q => by omega)))
        have GR := hide (GRow.mono (B' := w.heap.size) (Q3.out.row.keep K11 (fun g hg q => HROW.out g hg q)) (by omega))
        clear K11 C11
        go_wp2_with fail
        refine R3.mono ?_
        rintro e w4 ⟨rfl, hw4⟩
        obtain rfl : w3 = w4 := hw4.symm
        clear hw4
        go_wp2_with fail
        refine bodyPost_ret (v := .tuple #[.agg #[.int .i64 (n2 : Int), .int .i64 (n5 : Int), .slice none 0 0, .slice av k cv], .int .i64 0]) (by simp only [results, Tryd.results14]; simp [go_sem, k0, k1, k2, k3]) rfl ?_
        refine ⟨_, by rw [HV.out], ?_, BF.out⟩
        rw [HVP.out]
        refine ⟨_, _, rfl, ?_, ?_⟩
        · exact World.ownsRow_nil _ _ _ _
        · simp only [readG_length]; exact GR.out
theorem rdecode_any (a : Option Addr) (c : Nat) (l : List Nat) (number : Int) (w : World) (hs : Bytes w a l) (hb : AllB l) :
    Calls Tryd.prog 14 #[.slice a l.length c, .int .i64 number] w (RPost w l number) := by
  by_cases hn : number < 0 ∨ 63 < number
  · exact rdec_place a c l number w hn
  by_cases hl : l.length = 1024
  case neg => exact rdec_data a c l number w hn hl
  by_cases hz : allZ l = true
  · exact rdec_zero a c l number w hs hb hn hl hz
  have hz : allZ l = false := by simpa using hz
  obtain ⟨n0, n1, n2, n3, n4, n5, n6, hh⟩ := seven (takeN_length headS l)
  rw [hl]
  by_cases he : headE [n0, n1, n2, n3, n4, n5, n6] number (psum l) = 0
  case neg => exact rdec_head a c n0 n1 n2 n3 n4 n5 n6 l number w hs hb hn hl hz hh he
  rcases (headE_all he).2.1 with h1 | h1
  · exact rdec_rest1 a c n0 n1 n2 n3 n4 n5 n6 l number w hs hb hn hl hz hh h1 he
  · exact rdec_rest2 a c n0 n1 n2 n3 n4 n5 n6 l number w hs hb hn hl hz hh h1 he
end Go.Proofs.YtakjpljpdlhicabDoor
