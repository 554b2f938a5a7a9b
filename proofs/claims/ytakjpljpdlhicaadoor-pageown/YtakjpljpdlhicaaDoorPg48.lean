import Derived.Test.YtakjpljpdlhicaaDoorXA
import Derived.Test.YtakjpljpdlhicaaDoorPg41
import Derived.Test.YtakjpljpdlhicaaDoorPg42
import Derived.Test.YtakjpljpdlhicaaDoorTake
import Derived.Deep.RegionHeld
set_option linter.all false
namespace Go.Proofs.YtakjpljpdlhicaaDoor
open Go.RowKit Go.QK Go.Pg
set_option maxRecDepth 100000
theorem cell_lt {w : World} {b o : Nat} {v : Value} (h : w.cell? ⟨b, o, none⟩ = some v) : b < w.heap.size := by
  by_cases q : b < w.heap.size
  · exact q
  · have : w.heap[b]? = none := Array.getElem?_eq_none_iff.2 (by omega)
    simp [World.cell?, this] at h
set_option maxHeartbeats 16000000 in
theorem stay_any {w : World} {B : Nat} {lab : Nat → Nat} {I : Nat → Option It} {L : Nat} {vB vW vP vR : Value} {bs : List (Value × List Nat)} {ws : List (List Nat)} {ps qs : List (PageM × At)} (h : Own w B lab I) (hx : Bx w lab I L 0 [vB, vW, vP, vR]) (hc : Ct I vB vW vP vR bs ws ps qs) (e1 : ws = bs.map (·.2)) (e2 : qs.map (·.1) = ps.map (·.1)) :
    Calls Tryd.prog 22 #[.pointer (some ⟨L, 0, none⟩)] w fun e w' => e = .returned (.bool true) ∧ Below w.heap.size w w' := by
  obtain ⟨aB, cB, eB, -⟩ := GRow.lies (h.at_ _ _ hc.rB).1
  have eB : vB = .slice aB bs.length cB := eB
  subst eB
  obtain ⟨aW, cW, eW, -⟩ := GRow.lies (h.at_ _ _ hc.rW).1
  have eW : vW = .slice aW ws.length cW := eW
  subst eW
  obtain ⟨aP, cP, eP, -⟩ := GRow.lies (h.at_ _ _ hc.rP).1
  have eP : vP = .slice aP ps.length cP := eP
  subst eP
  obtain ⟨aR, cR, eR, -⟩ := GRow.lies (h.at_ _ _ hc.rR).1
  have eR : vR = .slice aR qs.length cR := eR
  subst eR
  obtain ⟨nb, hnb⟩ : ∃ n, n = bs.length := ⟨_, rfl⟩
  obtain ⟨np, hnp⟩ : ∃ n, n = ps.length := ⟨_, rfl⟩
  have hnw : ws.length = nb := by rw [e1, hnb]; simp
  have hnq : qs.length = np := by rw [hnp, ← List.length_map (f := (·.1)), e2]; simp
  have R1 := hide (show ∀ k, k < nb → ∀ wq, Below w.heap.size w wq → ∃ b b2 b3 c3 l, aB = some ⟨b, 0, none⟩ ∧ wq.cell? ⟨b, k, none⟩ = some (.slice (some ⟨b3, 0, none⟩) 1024 c3) ∧ aW = some ⟨b2, 0, none⟩ ∧ wq.cell? ⟨b2, k, none⟩ = some (.string (strOf l)) ∧ (convert 22 9 (.slice (some ⟨b3, 0, none⟩) 1024 c3)).run Tryd.prog wq = .ok (.string (strOf l)) wq from by
    intro k hk wq hb
    have hkb : k < bs.length := by omega
    obtain ⟨b, q1, q2, q3⟩ := row_one (GRow.below (h.at_ _ _ hc.rB).1 hb) (k := k) (v := bs[k].1) (by simp [hkb])
    obtain ⟨b2, r1, r2, r3⟩ := row_one (GRow.below (h.at_ _ _ hc.rW).1 hb) (k := k) (v := .string (strOf bs[k].2)) (by rw [e1]; simp [strs, hkb])
    have it : GRow wq B 5 1 bs[k].1 1024 ((ints bs[k].2).map (Value.int .u8)) := GRow.below (h.at_ _ _ (hc.iB k hkb)).1 hb
    obtain ⟨g, c, eg, -⟩ := grow_open it (by decide)
    rw [eg] at q3 it
    have hl := hc.lB bs[k] (List.getElem_mem hkb)
    have ob : OwnB wq B (.slice (some ⟨g, 0, none⟩) 1024 c) bs[k].2 := by unfold OwnB Owns; rw [ints_length, hl]; exact it
    have cv := conv_any (some ⟨g, 0, none⟩) bs[k].2 c wq (Owns.seen_at ob)
    rw [hl] at cv
    exact ⟨b, b2, g, c, bs[k].2, q1, q3, r1, r3, cv⟩)
  have R2 := hide (show ∀ k, k < np → ∃ (p : PageM) (t u : At), p.cs.length ≤ 1000 ∧ p.gs.length ≤ 1000 ∧ ∀ wq, Below w.heap.size w wq → ∃ b b2, aP = some ⟨b, 0, none⟩ ∧ aR = some ⟨b2, 0, none⟩ ∧ (wq.cell? ⟨b, k * 4, none⟩ = some (.int .i64 p.num) ∧ wq.cell? ⟨b, k * 4 + 1, none⟩ = some (.int .i64 p.lsn) ∧ wq.cell? ⟨b, k * 4 + 2, none⟩ = some (.slice t.a p.cs.length t.c) ∧ wq.cell? ⟨b, k * 4 + 3, none⟩ = some (.slice t.b p.gs.length t.d)) ∧
      (wq.cell? ⟨b2, k * 4, none⟩ = some (.int .i64 p.num) ∧ wq.cell? ⟨b2, k * 4 + 1, none⟩ = some (.int .i64 p.lsn) ∧ wq.cell? ⟨b2, k * 4 + 2, none⟩ = some (.slice u.a p.cs.length u.c) ∧ wq.cell? ⟨b2, k * 4 + 3, none⟩ = some (.slice u.b p.gs.length u.d)) ∧ Lies wq t.a (ctrsC p.cs) ∧ Lies wq t.b (grpsC p.gs) ∧ Lies wq u.a (ctrsC p.cs) ∧ Lies wq u.b (grpsC p.gs) from by
    intro k hk
    have hkp : k < ps.length := by omega
    have hkq : k < qs.length := by omega
    have ee : qs[k].1 = ps[k].1 := by
      have q1 : (qs.map (·.1))[k]? = some qs[k].1 := by simp [hkq]
      have q2 : (ps.map (·.1))[k]? = some ps[k].1 := by simp [hkp]
      rw [e2, q2] at q1
      exact (Option.some.inj q1).symm
    refine ⟨ps[k].1, ps[k].2, qs[k].2, (hc.lP _ (List.getElem_mem hkp)).1, (hc.lP _ (List.getElem_mem hkp)).2, fun wq hb => ?_⟩
    obtain ⟨b, q1, -, q3⟩ := row_pg (GRow.below (h.at_ _ _ hc.rP).1 hb) hkp
    obtain ⟨b2, r1, -, r3⟩ := row_pg (GRow.below (h.at_ _ _ hc.rR).1 hb) hkq
    simp only [vC, vG, ee] at r3
    obtain ⟨_, _, x1, l1, -⟩ := GRow.lies (GRow.below (h.at_ _ _ (hc.iC k hkp).1).1 hb)
    obtain ⟨_, _, x2, l2, -⟩ := GRow.lies (GRow.below (h.at_ _ _ (hc.iC k hkp).2).1 hb)
    obtain ⟨_, _, x3, l3, -⟩ := GRow.lies (GRow.below (h.at_ _ _ (hc.jC k hkq).1).1 hb)
    obtain ⟨_, _, x4, l4, -⟩ := GRow.lies (GRow.below (h.at_ _ _ (hc.jC k hkq).2).1 hb)
    cases x1
    cases x2
    cases x3
    cases x4
    have l3 : Lies wq qs[k].2.a (ctrsC qs[k].1.cs) := l3
    have l4 : Lies wq qs[k].2.b (grpsC qs[k].1.gs) := l4
    rw [ee] at l3 l4
    exact ⟨b, b2, q1, r1, q3, r3, l1, l2, l3, l4⟩)
  have F1 := hide (show ∀ k, k < nb → ∃ b b2 b3 c3 l, aB = some ⟨b, 0, none⟩ ∧ aW = some ⟨b2, 0, none⟩ ∧ ∀ wq, Below w.heap.size w wq → wq.cell? ⟨b, k, none⟩ = some (.slice (some ⟨b3, 0, none⟩) 1024 c3) ∧ wq.cell? ⟨b2, k, none⟩ = some (.string (strOf l)) ∧ (convert 22 9 (.slice (some ⟨b3, 0, none⟩) 1024 c3)).run Tryd.prog wq = .ok (.string (strOf l)) wq from by
    intro k hk
    obtain ⟨b, b2, b3, c3, l, z1, z2, z3, z4, -⟩ := R1.out k hk w (Below.refl _ _)
    refine ⟨b, b2, b3, c3, l, z1, z3, fun wq hb => ?_⟩
    obtain ⟨b', b2', b3', c3', l', z1', z2', z3', z4', z5'⟩ := R1.out k hk wq hb
    rw [z1] at z1'
    cases z1'
    rw [z3] at z3'
    cases z3'
    have hlt := (show b < w.heap.size ∧ b2 < w.heap.size from ⟨cell_lt z2, cell_lt z4⟩)
    have s1 := (hb.cell (p := ⟨b, k, none⟩) hlt.1).trans z2
    have s2 := (hb.cell (p := ⟨b2, k, none⟩) hlt.2).trans z4
    rw [s1] at z2'
    rw [s2] at z4'
    have q1 := Option.some.inj z2'
    have q2 := Option.some.inj z4'
    refine ⟨s1, s2, ?_⟩
    rw [q1, q2]
    exact z5')
  have F2 := hide (show ∀ k, k < np → ∃ (p : PageM) (t u : At), p.cs.length ≤ 1000 ∧ p.gs.length ≤ 1000 ∧ ∃ b b2, aP = some ⟨b, 0, none⟩ ∧ aR = some ⟨b2, 0, none⟩ ∧ ∀ wq, Below w.heap.size w wq → (wq.cell? ⟨b, k * 4, none⟩ = some (.int .i64 p.num) ∧ wq.cell? ⟨b, k * 4 + 1, none⟩ = some (.int .i64 p.lsn) ∧ wq.cell? ⟨b, k * 4 + 2, none⟩ = some (.slice t.a p.cs.length t.c) ∧ wq.cell? ⟨b, k * 4 + 3, none⟩ = some (.slice t.b p.gs.length t.d)) ∧
      (wq.cell? ⟨b2, k * 4, none⟩ = some (.int .i64 p.num) ∧ wq.cell? ⟨b2, k * 4 + 1, none⟩ = some (.int .i64 p.lsn) ∧ wq.cell? ⟨b2, k * 4 + 2, none⟩ = some (.slice u.a p.cs.length u.c) ∧ wq.cell? ⟨b2, k * 4 + 3, none⟩ = some (.slice u.b p.gs.length u.d)) ∧ Lies wq t.a (ctrsC p.cs) ∧ Lies wq t.b (grpsC p.gs) ∧ Lies wq u.a (ctrsC p.cs) ∧ Lies wq u.b (grpsC p.gs) from by
    intro k hk
    obtain ⟨p, t, u, l1, l2, R⟩ := R2.out k hk
    obtain ⟨b, b2, e1, e2, -⟩ := R w (Below.refl _ _)
    refine ⟨p, t, u, l1, l2, b, b2, e1, e2, fun wq hb => ?_⟩
    obtain ⟨b', b2', e1', e2', r⟩ := R wq hb
    rw [e1] at e1'
    cases e1'
    rw [e2] at e2'
    cases e2'
    exact r)
  clear R1 R2
  have CX := hide (show ∀ wq, Below w.heap.size w wq → wq.cell? ⟨L, 0, none⟩ = some (.slice aB nb cB) ∧ wq.cell? ⟨L, 1, none⟩ = some (.slice aW nb cW) ∧ wq.cell? ⟨L, 2, none⟩ = some (.slice aP np cP) ∧ wq.cell? ⟨L, 3, none⟩ = some (.slice aR np cR) from fun wq hb => by
    have cc := hx.cells.below hb
    rw [← hnb, hnw, ← hnp, hnq] at cc
    exact ⟨(cc.get 0 _ rfl).1, (cc.get 1 _ rfl).1, (cc.get 2 _ rfl).1, (cc.get 3 _ rfl).1⟩)
  have m1 : nb ≤ 90 := by have := hc.n1; omega
  have m2 : np ≤ 40 := by have := hc.n2; omega
  clear h hx hc e1 e2 hnb hnp hnw hnq
  go_enter Tryd.func22, Tryd.ntmps22
  go_wp2_with fail
  go_loopw [3] (fun v wz => ∃ k : Nat, v = .int .i64 (k : Int) ∧ k ≤ nb ∧ Below w.heap.size w wz) (fun v _ => nb + 1 - (intOf v).toNat)
  case atStart => exact ⟨0, rfl, Nat.zero_le _, Below.refl _ _⟩
  case round =>
    obtain ⟨k, rfl, hk, hb⟩ := hrel
    have HB := hide hb
    obtain ⟨y0, y1, y2, y3⟩ := CX.out wr hb
    clear hb
    by_cases hlt : k < nb
    · have d1 : decide ((k : Int) < (nb : Int)) = true := decide_eq_true (by omega)
      have d2 : (k : Int) < (nb : Int) := by omega
      go_upto_region 4 with fail
      obtain ⟨b, b2, b3, c3, l, rfl, rfl, RK⟩ := F1.out k hlt
      have RKH := hide RK
      clear RK
      refine wp_region_held_drew (S := fun wq => Below w.heap.size w wq) (by kernel_rfl) HB.out.drew (fun hS => ?_)
      clear y0 y1 y2 y3
      refine take_at 0 (some 14) (v := ?_) rfl rfl (by kernel_rfl) (by kernel_rfl) (by kernel_rfl) (fun _ _ _ h => h) ⟨by rfl, ?_⟩ hS ?_
      rotate_left
      · intro wq hSw; go_simp; try rfl
      simp only [Act.put, List.setIfInBounds_toArray, List.set_cons_zero, List.set_cons_succ]
      refine take_at 1 (some 15) (v := ?_) rfl rfl (by kernel_rfl) (by kernel_rfl) (by kernel_rfl) (fun _ _ _ h => h) ⟨by rfl, ?_⟩ hS ?_
      rotate_left
      · intro wq hSw; go_simp; try rfl
      simp only [Act.put, List.setIfInBounds_toArray, List.set_cons_zero, List.set_cons_succ]
      refine take_at 2 (some 16) (v := ?_) rfl rfl (by kernel_rfl) (by kernel_rfl) (by kernel_rfl) (fun _ _ _ h => h) ⟨by rfl, ?_⟩ hS ?_
      rotate_left
      · intro wq hSw; go_simp; try rfl
      simp only [Act.put, List.setIfInBounds_toArray, List.set_cons_zero, List.set_cons_succ]
      refine take_at 3 (some 17) (v := ?_) rfl rfl (by kernel_rfl) (by kernel_rfl) (by kernel_rfl) (fun _ _ _ h => h) ⟨by rfl, ?_⟩ hS ?_
      rotate_left
      · intro wq hSw; obtain ⟨y0, y1, y2, y3⟩ := CX.out wq hSw; go_simp; try rfl
      simp only [Act.put, List.setIfInBounds_toArray, List.set_cons_zero, List.set_cons_succ]
      refine take_at 4 (some 18) (v := ?_) rfl rfl (by kernel_rfl) (by kernel_rfl) (by kernel_rfl) (fun _ _ _ h => h) ⟨by rfl, ?_⟩ hS ?_
      rotate_left
      · intro wq hSw; go_simp; try rfl
      simp only [Act.put, List.setIfInBounds_toArray, List.set_cons_zero, List.set_cons_succ]
      refine take_at 5 (some 19) (v := ?_) rfl rfl (by kernel_rfl) (by kernel_rfl) (by kernel_rfl) (fun _ _ _ h => h) ⟨by rfl, ?_⟩ hS ?_
      rotate_left
      · intro wq hSw; go_simp; try rfl
      simp only [Act.put, List.setIfInBounds_toArray, List.set_cons_zero, List.set_cons_succ]
      refine take_at 6 (some 20) (v := ?_) rfl rfl (by kernel_rfl) (by kernel_rfl) (by kernel_rfl) (fun _ _ _ h => h) ⟨by rfl, ?_⟩ hS ?_
      rotate_left
      · intro wq hSw; obtain ⟨z2, z4, z5⟩ := RKH.out wq hSw; go_simp; try rfl
      simp only [Act.put, List.setIfInBounds_toArray, List.set_cons_zero, List.set_cons_succ]
      refine take_at 7 (some 21) (v := ?_) rfl rfl (by kernel_rfl) (by kernel_rfl) (by kernel_rfl) (fun _ _ _ h => h) ⟨by rfl, ?_⟩ hS ?_
      rotate_left
      · intro wq hSw; obtain ⟨z2, z4, z5⟩ := RKH.out wq hSw; go_simp; try rfl
      simp only [Act.put, List.setIfInBounds_toArray, List.set_cons_zero, List.set_cons_succ]
      refine take_at 8 (some 22) (v := ?_) rfl rfl (by kernel_rfl) (by kernel_rfl) (by kernel_rfl) (fun _ _ _ h => h) ⟨by rfl, ?_⟩ hS ?_
      rotate_left
      · intro wq hSw; go_simp; try rfl
      simp only [Act.put, List.setIfInBounds_toArray, List.set_cons_zero, List.set_cons_succ]
      refine take_at 9 (some 23) (v := ?_) rfl rfl (by kernel_rfl) (by kernel_rfl) (by kernel_rfl) (fun _ _ _ h => h) ⟨by rfl, ?_⟩ hS ?_
      rotate_left
      · intro wq hSw; go_simp; try rfl
      simp only [Act.put, List.setIfInBounds_toArray, List.set_cons_zero, List.set_cons_succ]
      refine take_at 10 (some 24) (v := ?_) rfl rfl (by kernel_rfl) (by kernel_rfl) (by kernel_rfl) (fun _ _ _ h => h) ⟨by rfl, ?_⟩ hS ?_
      rotate_left
      · intro wq hSw; go_simp; try rfl
      simp only [Act.put, List.setIfInBounds_toArray, List.set_cons_zero, List.set_cons_succ]
      refine take_at 11 (some 25) (v := ?_) rfl rfl (by kernel_rfl) (by kernel_rfl) (by kernel_rfl) (fun _ _ _ h => h) ⟨by rfl, ?_⟩ hS ?_
      rotate_left
      · intro wq hSw; obtain ⟨y0, y1, y2, y3⟩ := CX.out wq hSw; go_simp; try rfl
      simp only [Act.put, List.setIfInBounds_toArray, List.set_cons_zero, List.set_cons_succ]
      refine take_at 12 (some 26) (v := ?_) rfl rfl (by kernel_rfl) (by kernel_rfl) (by kernel_rfl) (fun _ _ _ h => h) ⟨by rfl, ?_⟩ hS ?_
      rotate_left
      · intro wq hSw; go_simp; try rfl
      simp only [Act.put, List.setIfInBounds_toArray, List.set_cons_zero, List.set_cons_succ]
      refine take_at 13 (some 27) (v := ?_) rfl rfl (by kernel_rfl) (by kernel_rfl) (by kernel_rfl) (fun _ _ _ h => h) ⟨by rfl, ?_⟩ hS ?_
      rotate_left
      · intro wq hSw; go_simp; try rfl
      simp only [Act.put, List.setIfInBounds_toArray, List.set_cons_zero, List.set_cons_succ]
      refine take_at 14 (some 28) (v := ?_) rfl rfl (by kernel_rfl) (by kernel_rfl) (by kernel_rfl) (fun _ _ _ h => h) ⟨by rfl, ?_⟩ hS ?_
      rotate_left
      · intro wq hSw; obtain ⟨z2, z4, z5⟩ := RKH.out wq hSw; go_simp; try rfl
      simp only [Act.put, List.setIfInBounds_toArray, List.set_cons_zero, List.set_cons_succ]
      refine take_at 15 (some 29) (v := ?_) rfl rfl (by kernel_rfl) (by kernel_rfl) (by kernel_rfl) (fun _ _ _ h => h) ⟨by rfl, ?_⟩ hS ?_
      rotate_left
      · intro wq hSw; go_simp; try rfl
      simp only [Act.put, List.setIfInBounds_toArray, List.set_cons_zero, List.set_cons_succ]
      have D9 := hide hS
      clear hS
      refine wpAnyH_done (by kernel_rfl) ?_ _
      go_wp2_with fail
      go_roundw
      case rel => exact ⟨k + 1, by go_num, by omega, D9.out⟩
      case measure => simp [intOf]; omega
    · obtain rfl : k = nb := by omega
      have d1 : decide ((k : Int) < (k : Int)) = false := decide_eq_false (by omega)
      go_wp2_with fail
      clear y0 y1 y2 y3
      obtain ⟨wx, hwx⟩ : ∃ x, x = wr := ⟨_, rfl⟩
      subst hwx
      go_loopw [4] (fun v wz => ∃ j : Nat, v = .int .i64 (j : Int) ∧ j ≤ np ∧ Below w.heap.size w wz) (fun v _ => np + 1 - (intOf v).toNat)
      case atStart => exact ⟨0, rfl, Nat.zero_le _, HB.out⟩
      case round =>
        obtain ⟨j, rfl, hj, hb⟩ := hrel
        have HB2 := hide hb
        obtain ⟨y0, y1, y2, y3⟩ := CX.out wr hb
        clear hb
        by_cases hlt : j < np
        · have d1 : decide ((j : Int) < (np : Int)) = true := decide_eq_true (by omega)
          have d2 : (j : Int) < (np : Int) := by omega
          obtain ⟨p, t, u, l1, l2, b, b2, rfl, rfl, RK⟩ := F2.out j hlt
          have RKH := hide RK
          clear RK
          obtain ⟨pn, pl, pc, pg⟩ := p
          obtain ⟨ta, tc, tb, td⟩ := t
          obtain ⟨ua, uc, ub, ud⟩ := u
          have l1' : pc.length ≤ 1000 := l1
          have l2' : pg.length ≤ 1000 := l2
          have SM := fun wq hb => same_true ⟨pn, pl, pc, pg⟩ ⟨ta, tc, tb, td⟩ ⟨ua, uc, ub, ud⟩ wq (RKH.out wq hb).2.2.1 (RKH.out wq hb).2.2.2.1 (RKH.out wq hb).2.2.2.2.1 (RKH.out wq hb).2.2.2.2.2 (Nat.le_trans l1' (by decide)) (Nat.le_trans l2' (by decide))
          have BK := fun wq => back_any ⟨pn, pl, pc, pg⟩ ⟨ta, tc, tb, td⟩ wq
          simp only [pageV] at SM BK l1 l2 RKH
          go_upto_region 9 with fail
          refine wp_region_held_drew (S := fun wq => Below w.heap.size w wq) (by kernel_rfl) HB2.out.drew (fun hS => ?_)
          clear y0 y1 y2 y3
          refine take_at 0 (some 39) (v := ?_) rfl rfl (by kernel_rfl) (by kernel_rfl) (by kernel_rfl) (fun _ _ _ h => h) ⟨by rfl, ?_⟩ hS ?_
          rotate_left
          · intro wq hSw; go_simp; try rfl
          simp only [Act.put, List.setIfInBounds_toArray, List.set_cons_zero, List.set_cons_succ]
          refine take_at 1 (some 40) (v := ?_) rfl rfl (by kernel_rfl) (by kernel_rfl) (by kernel_rfl) (fun _ _ _ h => h) ⟨by rfl, ?_⟩ hS ?_
          rotate_left
          · intro wq hSw; go_simp; try rfl
          simp only [Act.put, List.setIfInBounds_toArray, List.set_cons_zero, List.set_cons_succ]
          refine take_at 2 (some 41) (v := ?_) rfl rfl (by kernel_rfl) (by kernel_rfl) (by kernel_rfl) (fun _ _ _ h => h) ⟨by rfl, ?_⟩ hS ?_
          rotate_left
          · intro wq hSw; go_simp; try rfl
          simp only [Act.put, List.setIfInBounds_toArray, List.set_cons_zero, List.set_cons_succ]
          refine take_at 3 (some 42) (v := ?_) rfl rfl (by kernel_rfl) (by kernel_rfl) (by kernel_rfl) (fun _ _ _ h => h) ⟨by rfl, ?_⟩ hS ?_
          rotate_left
          · intro wq hSw; obtain ⟨y0, y1, y2, y3⟩ := CX.out wq hSw; go_simp; try rfl
          simp only [Act.put, List.setIfInBounds_toArray, List.set_cons_zero, List.set_cons_succ]
          refine take_at 4 (some 43) (v := ?_) rfl rfl (by kernel_rfl) (by kernel_rfl) (by kernel_rfl) (fun _ _ _ h => h) ⟨by rfl, ?_⟩ hS ?_
          rotate_left
          · intro wq hSw; go_simp; try rfl
          simp only [Act.put, List.setIfInBounds_toArray, List.set_cons_zero, List.set_cons_succ]
          refine take_at 5 (some 44) (v := ?_) rfl rfl (by kernel_rfl) (by kernel_rfl) (by kernel_rfl) (fun _ _ _ h => h) ⟨by rfl, ?_⟩ hS ?_
          rotate_left
          · intro wq hSw; go_simp; try rfl
          simp only [Act.put, List.setIfInBounds_toArray, List.set_cons_zero, List.set_cons_succ]
          refine take_at 6 (some 45) (v := ?_) rfl rfl (by kernel_rfl) (by kernel_rfl) (by kernel_rfl) (fun _ _ _ h => h) ⟨by rfl, ?_⟩ hS ?_
          rotate_left
          · intro wq hSw; obtain ⟨⟨x0, x1, x2, x3⟩, ⟨z0, z1, z2, z3⟩, -⟩ := RKH.out wq hSw; go_simp; try rfl
          simp only [Act.put, List.setIfInBounds_toArray, List.set_cons_zero, List.set_cons_succ]
          refine take_at 8 (some 47) (v := ?_) rfl rfl (by kernel_rfl) (by kernel_rfl) (by kernel_rfl) (fun _ _ _ h => h) ⟨by rfl, ?_⟩ hS ?_
          rotate_left
          · intro wq hSw; go_simp; try rfl
          simp only [Act.put, List.setIfInBounds_toArray, List.set_cons_zero, List.set_cons_succ]
          refine take_at 9 (some 48) (v := ?_) rfl rfl (by kernel_rfl) (by kernel_rfl) (by kernel_rfl) (fun _ _ _ h => h) ⟨by rfl, ?_⟩ hS ?_
          rotate_left
          · intro wq hSw; go_simp; try rfl
          simp only [Act.put, List.setIfInBounds_toArray, List.set_cons_zero, List.set_cons_succ]
          refine take_at 10 (some 49) (v := ?_) rfl rfl (by kernel_rfl) (by kernel_rfl) (by kernel_rfl) (fun _ _ _ h => h) ⟨by rfl, ?_⟩ hS ?_
          rotate_left
          · intro wq hSw; go_simp; try rfl
          simp only [Act.put, List.setIfInBounds_toArray, List.set_cons_zero, List.set_cons_succ]
          refine take_at 11 (some 50) (v := ?_) rfl rfl (by kernel_rfl) (by kernel_rfl) (by kernel_rfl) (fun _ _ _ h => h) ⟨by rfl, ?_⟩ hS ?_
          rotate_left
          · intro wq hSw; obtain ⟨y0, y1, y2, y3⟩ := CX.out wq hSw; go_simp; try rfl
          simp only [Act.put, List.setIfInBounds_toArray, List.set_cons_zero, List.set_cons_succ]
          refine take_at 12 (some 51) (v := ?_) rfl rfl (by kernel_rfl) (by kernel_rfl) (by kernel_rfl) (fun _ _ _ h => h) ⟨by rfl, ?_⟩ hS ?_
          rotate_left
          · intro wq hSw; go_simp; try rfl
          simp only [Act.put, List.setIfInBounds_toArray, List.set_cons_zero, List.set_cons_succ]
          refine take_at 13 (some 52) (v := ?_) rfl rfl (by kernel_rfl) (by kernel_rfl) (by kernel_rfl) (fun _ _ _ h => h) ⟨by rfl, ?_⟩ hS ?_
          rotate_left
          · intro wq hSw; go_simp; try rfl
          simp only [Act.put, List.setIfInBounds_toArray, List.set_cons_zero, List.set_cons_succ]
          refine take_at 14 (some 53) (v := ?_) rfl rfl (by kernel_rfl) (by kernel_rfl) (by kernel_rfl) (fun _ _ _ h => h) ⟨by rfl, ?_⟩ hS ?_
          rotate_left
          · intro wq hSw; obtain ⟨⟨x0, x1, x2, x3⟩, ⟨z0, z1, z2, z3⟩, -⟩ := RKH.out wq hSw; go_simp; try rfl
          simp only [Act.put, List.setIfInBounds_toArray, List.set_cons_zero, List.set_cons_succ]
          refine wpAnyH_ready (rs := [7]) (by kernel_rfl) (by simp) ?_
          refine AllReadyH.cons rfl (fun K hK => ?_) AllReadyH.nil
          go_simp
          go_wp2_with fail
          refine (BK _).mono ?_
          rintro e x1 ⟨rfl, hh⟩
          go_wp2_with fail
          refine hK.out _ _ (hS.trans (hh.mono hS.size)) (fun hS => ?_)
          clear hK K
          clear hh
          (try simp only [Act.put, List.setIfInBounds_toArray, List.set_cons_zero, List.set_cons_succ])
          refine wpAnyH_ready (rs := [15]) (by kernel_rfl) (by simp) ?_
          refine AllReadyH.cons rfl (fun K hK => ?_) AllReadyH.nil
          go_simp
          go_wp2_with fail
          refine (SM _ hS).mono ?_
          rintro e x2 ⟨rfl, hh⟩
          go_wp2_with fail
          refine hK.out _ _ (hS.trans (hh.mono hS.size)) (fun hS => ?_)
          clear hK K
          clear hh
          (try simp only [Act.put, List.setIfInBounds_toArray, List.set_cons_zero, List.set_cons_succ])
          refine take_at 16 (some 55) (v := ?_) rfl rfl (by kernel_rfl) (by kernel_rfl) (by kernel_rfl) (fun _ _ _ h => h) ⟨by rfl, ?_⟩ hS ?_
          rotate_left
          · intro wq hSw; go_simp; try rfl
          simp only [Act.put, List.setIfInBounds_toArray, List.set_cons_zero, List.set_cons_succ]
          have D9 := hide hS
          clear hS
          refine wpAnyH_done (by kernel_rfl) ?_ _
          go_wp2_with fail
          go_roundw
          case rel => exact ⟨j + 1, by go_num, by omega, D9.out⟩
          case measure => simp [intOf]; omega
        · obtain rfl : j = np := by omega
          have d1 : decide ((j : Int) < (j : Int)) = false := decide_eq_false (by omega)
          go_wp2_with fail
          go_ret
          exact ⟨rfl, HB2.out⟩
end Go.Proofs.YtakjpljpdlhicaaDoor
