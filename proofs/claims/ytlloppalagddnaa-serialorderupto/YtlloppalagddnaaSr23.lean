import Derived.Test.YtlloppalagddnaaSr22
set_option linter.all false
namespace Go.Proofs.Ytlloppalagddnaa
open Go.RowKit Go.QK Quota Go.Maps Go.QM Go.QS
set_option maxRecDepth 100000
/-! SerialFront. -/
theorem ofV_take {l : List RZ} (n : Nat) (h : ofE st0 (ros l) = 0) : ∃ rest, ofV l = ofV (l.take n) ++ rest ∧ ofE st0 (ros (l.take n)) = 0 := by
  have e : ros (l.take n) = (ros l).take n := by unfold ros; rw [List.map_take]
  have h2 : ofE st0 ((ros l).take n) = 0 := by
    by_cases q : ofE st0 ((ros l).take n) = 0
    · exact q
    · rw [ofE_stop n q] at h
      exact absurd h q
  have e2 : ros l = (ros l).take n ++ (ros l).drop n := (List.take_append_drop n _).symm
  refine ⟨ofR (ofS st0 ((ros l).take n)) ((ros l).drop n), ?_, by rw [e]; exact h2⟩
  unfold ofV
  rw [if_pos h, e, if_pos h2]
  conv => lhs; rw [e2]
  rw [ofR_app _ _ _ h2]
theorem ofV_bad {l : List RZ} (h : ofE st0 (ros l) ≠ 0) : ofV l = [] := if_neg h
theorem ofV_len (l : List RZ) : (ofV l).length ≤ l.length := by
  unfold ofV
  split
  · have := ofR_len st0 (ros l)
    have e : (ros l).length = l.length := List.length_map _
    omega
  · simp
theorem ofE_front {l : List RZ} (n : Nat) (h : ofE st0 (ros (l.take n)) ≠ 0) : ofE st0 (ros l) = ofE st0 (ros (l.take n)) := by
  have e : ros (l.take n) = (ros l).take n := by unfold ros; rw [List.map_take]
  rw [e] at h ⊢
  exact ofE_stop n h
theorem rv_at {w : World} {a : Option Addr} {l : List RV} (h : Lies w a (rowsC rvC l)) (k : Nat) (hk : k < l.length) : ∃ b off, a = some ⟨b, off, none⟩ ∧ b < w.heap.size ∧ w.cell? ⟨b, off + k * 2, none⟩ = some (.int .i64 l[k].tx) ∧ w.cell? ⟨b, off + k * 2 + 1, none⟩ = some (.slice l[k].a l[k].l.length l[k].c) := by
  obtain ⟨b, off, e, hb, hc⟩ := Lies.rowAt rvC 2 (fun _ => rfl) h k hk (by omega)
  exact ⟨b, off, e, hb, by have := hc 0 _ rfl; rwa [Nat.add_zero] at this, hc 1 _ rfl⟩
set_option maxHeartbeats 16000000 in
theorem law_front (a : Option Addr) (cap : Nat) (l : List RZ) (cut : Int) (w : World) (h : Lies w a (rzs l)) (hna : a = none → cap = 0) (hcap : l.length ≤ cap) (hd : ∀ r ∈ l, I64 r.delta) (hl : (l.length + 1) * 168 ≤ 140737488355328) (hL : ∀ rn ∈ ofV l, rn.2.length ≤ 1048576) :
    Calls Try.prog 3 #[.slice a l.length cap, .int .i64 cut] w fun e w' => e = .returned (.bool true) ∧ Below w.heap.size w w' := by
  have h0 : (0 : Int) < (l.length : Int) + 1 := by omega
  have KM := fun w' => modulo_any cut ((l.length : Int) + 1) w' h0 (by omega)
  obtain ⟨n, hn⟩ : ∃ n : Nat, (n : Int) = cut % ((l.length : Int) + 1) := ⟨(cut % ((l.length : Int) + 1)).toNat, by have := Int.emod_nonneg cut (show (l.length : Int) + 1 ≠ 0 by omega); omega⟩
  have hnl : n ≤ l.length := by have := Int.emod_lt_of_pos cut h0; omega
  rw [← hn] at KM
  have HL := hide h
  have HD := hide hd
  clear h hd hn h0
  go_enter Try.func3, Try.ntmps3
  go_wp2_with fail
  refine (first_any w).mono ?_
  rintro e w1 ⟨rfl, b1⟩
  have B1 := hide b1
  clear b1
  go_wp2_with fail
  refine (KM _).mono ?_
  rintro e w2 ⟨rfl, b2⟩
  have B2 := hide (B1.out.trans (b2.mono B1.out.size))
  clear b2 KM B1
  go_wp2_with fail
  refine (lentR_any l a cap w2 (HL.out.below B2.out) (fun q => by have := hna q; omega) hl).mono ?_
  rintro e w3 ⟨g, c', rfl, hc', hrow, b3⟩
  obtain ⟨ga, gc, ge, hgl, _, _, _, _⟩ := GRow.lies hrow
  cases ge
  rw [rzs_app] at hgl
  have L3 := hide hgl.front
  have B3 := hide (B2.out.trans (b3.mono B2.out.size))
  clear b3 B2 hrow hgl
  go_wp2_with fail
  refine (of_any (some ⟨g, 0, none⟩) c' l w3 L3.out HD.out (by omega)).mono ?_
  rintro e w4 ⟨⟨v1, rfl, r1⟩, b4⟩
  have R1 := hide r1
  have B4 := hide (B3.out.trans (b4.mono B3.out.size))
  clear r1 b4 B3 L3
  have s1 := fun wq => slice22 (a := a) (n := l.length) (cap := cap) n wq (by omega) hna
  have LT := hide (show Lies w4 a (rzs (l.take n)) from lies_takeR (HL.out.below B4.out) n)
  have hln : (l.take n).length = n := by rw [List.length_take]; omega
  go_wp2_with fail
  have KL2 := lentR_any (l.take n) a cap w4 LT.out (fun q => by have := hna q; omega) (by rw [hln]; omega)
  rw [hln] at KL2
  refine KL2.mono ?_
  rintro e w5 ⟨g2, c2', rfl, hc2', hrow, b5⟩
  obtain ⟨ga, gc, ge, hgl, _, _, _, _⟩ := GRow.lies hrow
  cases ge
  rw [rzs_app] at hgl
  have L5 := hide hgl.front
  have R1b := hide (R1.out.below b5)
  have B5 := hide (B4.out.trans (b5.mono B4.out.size))
  have KO := of_any (some ⟨g2, 0, none⟩) c2' (l.take n) w5 L5.out (fun r hr => HD.out r (List.mem_of_mem_take hr)) (by rw [hln]; omega)
  rw [hln] at KO
  clear b5 B4 hrow hgl KL2 LT R1 s1 L5
  go_wp2_with fail
  refine KO.mono ?_
  rintro e w6 ⟨⟨v2, rfl, r2⟩, b6⟩
  have B6 := hide (B5.out.trans (b6.mono B5.out.size))
  have R1c := R1b.out.below b6
  clear KO b6 B5 R1b
  obtain ⟨a1, c1, rs1, e1, n1, m1, z1, l1, q1, t1⟩ := R1c.out
  obtain ⟨a2, c2, rs2, e2, n2, m2, z2, l2, q2, t2⟩ := r2.out
  subst e1
  subst e2
  clear R1c r2
  by_cases f2 : ofE st0 (ros (l.take n)) = 0
  · by_cases f1 : ofE st0 (ros l) = 0
    · obtain ⟨rest, hrest, _⟩ := ofV_take n f1
      rw [f1, f2]
      have hmap : rs1.map RV.rn = rs2.map RV.rn ++ rest := by rw [t1, t2]; exact hrest
      have hle : rs2.length ≤ rs1.length := by
        have := congrArg List.length hmap
        simp at this
        omega
      have hr2l : rs2.length ≤ l.length := by
        have e1 := congrArg List.length t2
        have e2 := ofV_len (l.take n)
        rw [List.length_map] at e1
        omega
      have hgt := hide (show ∀ k (h1 : k < rs1.length) (h2 : k < rs2.length), rs1[k].tx = rs2[k].tx ∧ rs1[k].l = rs2[k].l from fun k h1 h2 => by
        have e3 : (rs1.map RV.rn)[k]? = (rs2.map RV.rn)[k]? := by
          rw [hmap, List.getElem?_append_left (by simpa using h2)]
        rw [List.getElem?_map, List.getElem?_map, List.getElem?_eq_getElem h1, List.getElem?_eq_getElem h2] at e3
        have e4 := Option.some.inj e3
        unfold RV.rn at e4
        exact ⟨congrArg Prod.fst e4, congrArg Prod.snd e4⟩)
      have HLn := hide (show ∀ r ∈ rs1, r.l.length ≤ 1048576 from fun r hr => hL r.rn (by rw [← t1]; exact List.mem_map.2 ⟨r, hr, rfl⟩))
      have L1 := hide l1
      have L2 := hide l2
      have Q1 := hide q1
      have Q2 := hide q2
      have e9 : decide (rs1.length < rs2.length) = false := decide_eq_false (by omega)
      clear l1 l2 q1 q2 t1 t2 hmap hrest f1 f2
      go_wp2_with fail
      go_loopw [10] (fun i wr => ∃ k : Nat, k ≤ rs2.length ∧ i = .int .i64 k ∧ Below w6.heap.size w6 wr) (fun i _ => rs2.length - (intOf i).toNat)
      case atStart => exact ⟨0, Nat.zero_le _, rfl, Below.refl _ _⟩
      case round =>
        obtain ⟨k, hk, rfl, hb⟩ := hrel
        by_cases hlt : k < rs2.length
        · have hlt1 : k < rs1.length := by omega
          obtain ⟨x1, x2⟩ := hgt.out k hlt1 hlt
          have hm1 : rs1[k] ∈ rs1 := List.getElem_mem hlt1
          have hm2 : rs2[k] ∈ rs2 := List.getElem_mem hlt
          obtain ⟨ab, ao, e3, hab, p0, p1⟩ := rv_at (L1.out.below hb) k hlt1
          obtain ⟨bb, bo, e4, hbb, p2, p3⟩ := rv_at (L2.out.below hb) k hlt
          have o1 := hide ((Q1.out _ hm1).1.below hb)
          have o2 := hide ((Q2.out _ hm2).1.below hb)
          have o3 := HLn.out _ hm1
          subst e3
          subst e4
          generalize rs1[k] = y1 at *
          generalize rs2[k] = y2 at *
          obtain ⟨yt, ya, yc, yl⟩ := y1
          obtain ⟨zt, za, zc, zl⟩ := y2
          simp only at x1 x2 p0 p1 p2 p3 o3
          subst x1
          subst x2
          have HB := hide hb
          clear hb hm1 hm2
          have e4 : decide ((k : Int) < (rs2.length : Int)) = true := decide_eq_true (by omega)
          go_upto_region 15 with fail
          refine wp_region_held_drew (S := fun wq => wq.cell? ⟨ab, ao + k * 2, none⟩ = some (.int .i64 yt) ∧ wq.cell? ⟨ab, ao + k * 2 + 1, none⟩ = some (.slice ya yl.length yc) ∧ wq.cell? ⟨bb, bo + k * 2, none⟩ = some (.int .i64 yt) ∧ wq.cell? ⟨bb, bo + k * 2 + 1, none⟩ = some (.slice za yl.length zc)) (by kernel_rfl) ⟨p0, p1, p2, p3⟩ (fun hS => ?_)
          have HB2 := hide HB.out.drew
          have o4 := hide (o1.out.below (Below.refl _ _).drew)
          have o5 := hide (o2.out.below (Below.refl _ _).drew)
          have lab1 : ab < wr.drew.heap.size := hab
          have lbb1 : bb < wr.drew.heap.size := hbb
          clear HB o1 o2
          generalize wr.drew = x3 at *
          have SF := hide hS
          have KH := holdings_true (ofT yt yl) za ya zc yc x3 o5.out o4.out (by rw [ofT_len]; omega)
          rw [ofT_len] at KH
          refine take_at 0 (some 63) (v := ?_) rfl rfl (by kernel_rfl) (by kernel_rfl) (by kernel_rfl) (fun _ _ _ h => h) ⟨by rfl, ?_⟩ hS ?_
          rotate_left
          · intro wq hSw; go_simp; try rfl
          simp only [Act.put, List.setIfInBounds_toArray, List.set_cons_zero, List.set_cons_succ]
          refine take_at 1 (some 64) (v := ?_) rfl rfl (by kernel_rfl) (by kernel_rfl) (by kernel_rfl) (fun _ _ _ h => h) ⟨by rfl, ?_⟩ hS ?_
          rotate_left
          · intro wq hSw; go_simp; try rfl
          simp only [Act.put, List.setIfInBounds_toArray, List.set_cons_zero, List.set_cons_succ]
          refine take_at 2 (some 65) (v := ?_) rfl rfl (by kernel_rfl) (by kernel_rfl) (by kernel_rfl) (fun _ _ _ h => h) ⟨by rfl, ?_⟩ hS ?_
          rotate_left
          · intro wq hSw; go_simp; try rfl
          simp only [Act.put, List.setIfInBounds_toArray, List.set_cons_zero, List.set_cons_succ]
          refine take_at 3 (some 66) (v := ?_) rfl rfl (by kernel_rfl) (by kernel_rfl) (by kernel_rfl) (fun _ _ _ h => h) ⟨by rfl, ?_⟩ hS ?_
          rotate_left
          · intro wq hSw; go_simp; try rfl
          simp only [Act.put, List.setIfInBounds_toArray, List.set_cons_zero, List.set_cons_succ]
          refine take_at 4 (some 67) (v := ?_) rfl rfl (by kernel_rfl) (by kernel_rfl) (by kernel_rfl) (fun _ _ _ h => h) ⟨by rfl, ?_⟩ hS ?_
          rotate_left
          · intro wq hSw; obtain ⟨r0, r1, r2, r3⟩ := hSw; go_simp; try rfl
          simp only [Act.put, List.setIfInBounds_toArray, List.set_cons_zero, List.set_cons_succ]
          refine take_at 5 (some 68) (v := ?_) rfl rfl (by kernel_rfl) (by kernel_rfl) (by kernel_rfl) (fun _ _ _ h => h) ⟨by rfl, ?_⟩ hS ?_
          rotate_left
          · intro wq hSw; go_simp; try rfl
          simp only [Act.put, List.setIfInBounds_toArray, List.set_cons_zero, List.set_cons_succ]
          refine take_at 6 (some 69) (v := ?_) rfl rfl (by kernel_rfl) (by kernel_rfl) (by kernel_rfl) (fun _ _ _ h => h) ⟨by rfl, ?_⟩ hS ?_
          rotate_left
          · intro wq hSw; go_simp; try rfl
          simp only [Act.put, List.setIfInBounds_toArray, List.set_cons_zero, List.set_cons_succ]
          refine take_at 7 (some 70) (v := ?_) rfl rfl (by kernel_rfl) (by kernel_rfl) (by kernel_rfl) (fun _ _ _ h => h) ⟨by rfl, ?_⟩ hS ?_
          rotate_left
          · intro wq hSw; go_simp; try rfl
          simp only [Act.put, List.setIfInBounds_toArray, List.set_cons_zero, List.set_cons_succ]
          refine take_at 8 (some 71) (v := ?_) rfl rfl (by kernel_rfl) (by kernel_rfl) (by kernel_rfl) (fun _ _ _ h => h) ⟨by rfl, ?_⟩ hS ?_
          rotate_left
          · intro wq hSw; go_simp; try rfl
          simp only [Act.put, List.setIfInBounds_toArray, List.set_cons_zero, List.set_cons_succ]
          refine take_at 9 (some 72) (v := ?_) rfl rfl (by kernel_rfl) (by kernel_rfl) (by kernel_rfl) (fun _ _ _ h => h) ⟨by rfl, ?_⟩ hS ?_
          rotate_left
          · intro wq hSw; obtain ⟨r0, r1, r2, r3⟩ := hSw; go_simp; try rfl
          simp only [Act.put, List.setIfInBounds_toArray, List.set_cons_zero, List.set_cons_succ]
          refine take_at 10 (some 73) (v := ?_) rfl rfl (by kernel_rfl) (by kernel_rfl) (by kernel_rfl) (fun _ _ _ h => h) ⟨by rfl, ?_⟩ hS ?_
          rotate_left
          · intro wq hSw; go_simp; try rfl
          simp only [Act.put, List.setIfInBounds_toArray, List.set_cons_zero, List.set_cons_succ]
          refine take_at 11 (some 74) (v := ?_) rfl rfl (by kernel_rfl) (by kernel_rfl) (by kernel_rfl) (fun _ _ _ h => h) ⟨by rfl, ?_⟩ hS ?_
          rotate_left
          · intro wq hSw; go_simp; try rfl
          simp only [Act.put, List.setIfInBounds_toArray, List.set_cons_zero, List.set_cons_succ]
          refine take_at 12 (some 75) (v := ?_) rfl rfl (by kernel_rfl) (by kernel_rfl) (by kernel_rfl) (fun _ _ _ h => h) ⟨by rfl, ?_⟩ hS ?_
          rotate_left
          · intro wq hSw; go_simp; try rfl
          simp only [Act.put, List.setIfInBounds_toArray, List.set_cons_zero, List.set_cons_succ]
          refine take_at 13 (some 76) (v := ?_) rfl rfl (by kernel_rfl) (by kernel_rfl) (by kernel_rfl) (fun _ _ _ h => h) ⟨by rfl, ?_⟩ hS ?_
          rotate_left
          · intro wq hSw; go_simp; try rfl
          simp only [Act.put, List.setIfInBounds_toArray, List.set_cons_zero, List.set_cons_succ]
          refine take_at 14 (some 77) (v := ?_) rfl rfl (by kernel_rfl) (by kernel_rfl) (by kernel_rfl) (fun _ _ _ h => h) ⟨by rfl, ?_⟩ hS ?_
          rotate_left
          · intro wq hSw; go_simp; try rfl
          simp only [Act.put, List.setIfInBounds_toArray, List.set_cons_zero, List.set_cons_succ]
          refine take_at 15 (some 78) (v := ?_) rfl rfl (by kernel_rfl) (by kernel_rfl) (by kernel_rfl) (fun _ _ _ h => h) ⟨by rfl, ?_⟩ hS ?_
          rotate_left
          · intro wq hSw; go_simp; try rfl
          simp only [Act.put, List.setIfInBounds_toArray, List.set_cons_zero, List.set_cons_succ]
          refine take_at 16 (some 79) (v := ?_) rfl rfl (by kernel_rfl) (by kernel_rfl) (by kernel_rfl) (fun _ _ _ h => h) ⟨by rfl, ?_⟩ hS ?_
          rotate_left
          · intro wq hSw; obtain ⟨r0, r1, r2, r3⟩ := hSw; go_simp; try rfl
          simp only [Act.put, List.setIfInBounds_toArray, List.set_cons_zero, List.set_cons_succ]
          refine take_at 17 (some 80) (v := ?_) rfl rfl (by kernel_rfl) (by kernel_rfl) (by kernel_rfl) (fun _ _ _ h => h) ⟨by rfl, ?_⟩ hS ?_
          rotate_left
          · intro wq hSw; go_simp; try rfl
          simp only [Act.put, List.setIfInBounds_toArray, List.set_cons_zero, List.set_cons_succ]
          refine take_at 18 (some 81) (v := ?_) rfl rfl (by kernel_rfl) (by kernel_rfl) (by kernel_rfl) (fun _ _ _ h => h) ⟨by rfl, ?_⟩ hS ?_
          rotate_left
          · intro wq hSw; go_simp; try rfl
          simp only [Act.put, List.setIfInBounds_toArray, List.set_cons_zero, List.set_cons_succ]
          refine take_at 19 (some 82) (v := ?_) rfl rfl (by kernel_rfl) (by kernel_rfl) (by kernel_rfl) (fun _ _ _ h => h) ⟨by rfl, ?_⟩ hS ?_
          rotate_left
          · intro wq hSw; go_simp; try rfl
          simp only [Act.put, List.setIfInBounds_toArray, List.set_cons_zero, List.set_cons_succ]
          refine take_at 20 (some 83) (v := ?_) rfl rfl (by kernel_rfl) (by kernel_rfl) (by kernel_rfl) (fun _ _ _ h => h) ⟨by rfl, ?_⟩ hS ?_
          rotate_left
          · intro wq hSw; go_simp; try rfl
          simp only [Act.put, List.setIfInBounds_toArray, List.set_cons_zero, List.set_cons_succ]
          refine take_at 21 (some 84) (v := ?_) rfl rfl (by kernel_rfl) (by kernel_rfl) (by kernel_rfl) (fun _ _ _ h => h) ⟨by rfl, ?_⟩ hS ?_
          rotate_left
          · intro wq hSw; obtain ⟨r0, r1, r2, r3⟩ := hSw; go_simp; try rfl
          simp only [Act.put, List.setIfInBounds_toArray, List.set_cons_zero, List.set_cons_succ]
          refine wpAnyH_ready (rs := [22]) (by kernel_rfl) (by simp) ?_
          refine AllReadyH.cons rfl (fun K hK => ?_) AllReadyH.nil
          go_simp
          go_wp2_with fail
          refine KH.mono ?_
          rintro e x4 ⟨rfl, b4⟩
          have HB3 := hide (HB2.out.trans (b4.mono HB2.out.size))
          obtain ⟨g0, g1, g2, g3⟩ := SF.out
          have f0 := (b4.cell (p := ⟨ab, ao + k * 2, none⟩) lab1).trans g0
          have f1 := (b4.cell (p := ⟨ab, ao + k * 2 + 1, none⟩) lab1).trans g1
          have f2 := (b4.cell (p := ⟨bb, bo + k * 2, none⟩) lbb1).trans g2
          have f3 := (b4.cell (p := ⟨bb, bo + k * 2 + 1, none⟩) lbb1).trans g3
          clear b4
          go_wp2_with fail
          refine hK.out _ _ ⟨f0, f1, f2, f3⟩ (fun hS => ?_)
          clear hK K
          (try simp only [Act.put, List.setIfInBounds_toArray, List.set_cons_zero, List.set_cons_succ])
          refine take_at 23 (some 86) (v := ?_) rfl rfl (by kernel_rfl) (by kernel_rfl) (by kernel_rfl) (fun _ _ _ h => h) ⟨by rfl, ?_⟩ hS ?_
          rotate_left
          · intro wq hSw; go_simp; try rfl
          simp only [Act.put, List.setIfInBounds_toArray, List.set_cons_zero, List.set_cons_succ]
          refine take_at 24 (some 87) (v := ?_) rfl rfl (by kernel_rfl) (by kernel_rfl) (by kernel_rfl) (fun _ _ _ h => h) ⟨by rfl, ?_⟩ hS ?_
          rotate_left
          · intro wq hSw; go_simp; try rfl
          simp only [Act.put, List.setIfInBounds_toArray, List.set_cons_zero, List.set_cons_succ]
          refine wpAnyH_done (by kernel_rfl) ?_ _
          clear hS
          go_wp2_with fail
          go_roundw
          case rel => first | exact ⟨k + 1, hlt, by go_num, HB3.out⟩ | ((repeat apply Exists.intro); refine ⟨⟨k + 1, hlt, ?_, HB3.out⟩, rfl⟩; go_num)
          case measure => simp [intOf]; omega
        · have hek : k = rs2.length := by omega
          subst hek
          have HB := hide (B6.out.trans (hb.mono B6.out.size))
          clear hb
          go_wp2_with fail
          go_ret
          exact ⟨rfl, HB.out⟩
    · have hb1 : (ofE st0 (ros l) != 0) = true := by simpa using f1
      have e0 : rs1 = [] := by have := ofV_bad f1; rw [this] at t1; simpa using t1
      subst e0
      rw [f2]
      generalize ofE st0 (ros l) = E at *
      clear l1 l2 q1 q2 t1 t2 f1 f2
      go_wp2_with fail
      go_ret
      exact ⟨rfl, B6.out⟩
  · have hb2 : (ofE st0 (ros (l.take n)) != 0) = true := by simpa using f2
    have f3 := ofE_front n f2
    have e0 : rs2 = [] := by have := ofV_bad f2; rw [this] at t2; simpa using t2
    have e1 : rs1 = [] := by have := ofV_bad (show ofE st0 (ros l) ≠ 0 from by rw [f3]; exact f2); rw [this] at t1; simpa using t1
    subst e0
    subst e1
    rw [f3]
    generalize ofE st0 (ros (l.take n)) = E at *
    clear l1 l2 q1 q2 t1 t2 f2 f3
    go_wp2_with fail
    go_ret
    exact ⟨rfl, B6.out⟩
end Go.Proofs.Ytlloppalagddnaa
