import Derived.Test.YtehbpmibllpkhaaGreatDoorUd8
import Derived.Test.YtehbpmibllpkhaaGreatDoorUd5
set_option linter.all false
namespace Go.Proofs.YtehbpmibllpkhaaGreatDoor
open Go.RowKit Go.QK Go.Maps Go.QM Go.QU
set_option maxRecDepth 100000
theorem goL_no {tx : Int} {L : Prs Hd} {r : UR} {rs : List UR} (h : r.tx = tx) (he : stepE L r ≠ 0) : goL tx L (r :: rs) = [] := by simp only [goL, if_pos h, if_neg he]
theorem step_ids {L : Prs Hd} {r : UR} (h : ∀ p ∈ L, I64 p.1) (hr : I64 r.id) : ∀ p ∈ stepL L r, I64 p.1 := by
  intro p hp
  unfold stepL at hp
  split at hp
  · rcases mem_putM hp with rfl | q
    · exact hr
    · exact h p q
  · split at hp
    · exact h p (List.mem_filter.1 hp).1
    · split at hp
      · cases hp
      · exact h p hp
/-- Where the loop stands. -/
structure At (tx : Int) (us : List UR) (k : Nat) (L : Prs Hd) : Prop where
  e : goE tx [] us = goE tx L (us.drop k)
  l : goL tx [] us = goL tx L (us.drop k)
  n : L.length ≤ k
  i : ∀ p ∈ L, I64 p.1
theorem At.zero (tx : Int) (us : List UR) : At tx us 0 [] := ⟨rfl, rfl, Nat.le_refl _, fun p hp => by cases hp⟩
theorem At.skip {tx : Int} {us : List UR} {k : Nat} {L : Prs Hd} (h : At tx us k L) (hk : k < us.length) (hn : us[k].tx ≠ tx) : At tx us (k + 1) L := by
  refine ⟨?_, ?_, by have := h.n; omega, h.i⟩
  · rw [h.e, List.drop_eq_getElem_cons hk, goE_skip hn]
  · rw [h.l, List.drop_eq_getElem_cons hk, goL_skip hn]
theorem At.step {tx : Int} {us : List UR} {k : Nat} {L : Prs Hd} (h : At tx us k L) (hk : k < us.length) (hn : us[k].tx = tx) (he : stepE L us[k] = 0) (hi : I64 us[k].id) : At tx us (k + 1) (stepL L us[k]) := by
  refine ⟨?_, ?_, by have := h.n; have := step_len L us[k]; omega, step_ids h.i hi⟩
  · rw [h.e, List.drop_eq_getElem_cons hk, goE_go hn he]
  · rw [h.l, List.drop_eq_getElem_cons hk, goL_go hn he]
theorem At.bad {tx : Int} {us : List UR} {k : Nat} {L : Prs Hd} (h : At tx us k L) (ht : isTx tx = true) (hk : k < us.length) (hn : us[k].tx = tx) (he : stepE L us[k] ≠ 0) : leftE tx us = stepE L us[k] ∧ leftL tx us = [] := by
  refine ⟨?_, ?_⟩
  · unfold leftE; rw [if_pos ht, h.e, List.drop_eq_getElem_cons hk, goE_no hn he]
  · unfold leftL; rw [if_pos ht, h.l, List.drop_eq_getElem_cons hk, goL_no hn he]
theorem At.done {tx : Int} {us : List UR} {L : Prs Hd} (h : At tx us us.length L) (ht : isTx tx = true) : leftE tx us = 0 ∧ leftL tx us = L := by
  refine ⟨?_, ?_⟩
  · unfold leftE; rw [if_pos ht, h.e, List.drop_eq_nil_of_le (Nat.le_refl _)]; rfl
  · unfold leftL; rw [if_pos ht, h.l, List.drop_eq_nil_of_le (Nat.le_refl _)]; rfl
theorem read_ok (b m : Nat) (L : Prs Hd) (A : Array Value) (r : UR) (w : World) (h : PB w b m L) (hr : RF A r) (i1 : I64 r.id) (i2 : I64 r.delta) (hl : L.length + 1 < 1000000000000) (he : stepE L r = 0) :
    Calls Tryz.prog 16 #[ptr b, .agg A] w fun e w' => e = .returned (.int .i64 0) ∧ (∃ m', PB w' b m' (stepL L r) ∧ (m' = m ∨ w.heap.size ≤ m')) ∧ Keep (fun z => z = b ∨ z = m) w w' :=
  (read_any b m L A r w h hr i1 i2 hl).mono (fun e w' q => by rw [he, if_pos rfl] at q; exact q)
theorem read_bad (b m : Nat) (L : Prs Hd) (A : Array Value) (r : UR) (w : World) (h : PB w b m L) (hr : RF A r) (i1 : I64 r.id) (i2 : I64 r.delta) (hl : L.length + 1 < 1000000000000) :
    Calls Tryz.prog 16 #[ptr b, .agg A] w fun e w' => e = .returned (.int .i64 ((stepE L r : Nat) : Int)) ∧ Keep (fun z => z = b ∨ z = m) w w' :=
  (read_any b m L A r w h hr i1 i2 hl).mono (fun e w' q => ⟨q.1, q.2.2⟩)
set_option maxHeartbeats 8000000 in
theorem left_any (rs : List RZ) (a : Option Addr) (c : Nat) (tx : Int) (w : World) (lr : Lies w a (rzs rs)) (it : I64 tx) (ir : ∀ r ∈ rs, I64 r.delta ∧ I64 r.id) (hl : rs.length * 168 ≤ 140737488355328) :
    Calls Tryz.prog 7 #[.slice a rs.length c, .int .i64 tx] w fun e w' => ∃ v, e = .returned (.tuple #[v, .int .i64 ((leftE tx (rs.map urOf) : Nat) : Int)]) ∧ GRow w' w.heap.size 53 17 v (leftL tx (rs.map urOf)).length (rzs ((leftL tx (rs.map urOf)).map (undZ tx))) ∧ Below w.heap.size w w' := by
  obtain ⟨N, hN⟩ : ∃ n, n = rs.length := ⟨_, rfl⟩
  rw [← hN] at hl ⊢
  obtain ⟨us, hus⟩ : ∃ z, z = rs.map urOf := ⟨_, rfl⟩
  rw [← hus]
  have HN := hide hN
  have HUS := hide hus
  have HLR := hide lr
  have HIR := hide ir
  have HIT := hide it
  have NB := hide (newBook_any w)
  clear hN hus lr ir it
  by_cases ht : 1 ≤ tx ∧ tx ≤ 2147483647
  · have HT := hide (show isTx tx = true by unfold isTx; simp [ht])
    have t1 : decide (tx < 1) = false := decide_eq_false (by omega)
    have t2 : decide (2147483647 < tx) = false := decide_eq_false (by omega)
    have t3 : decide (tx > 2147483647) = false := decide_eq_false (by omega)
    clear ht
    go_enter Tryz.func7, Tryz.ntmps7
    go_upto_region 3 with fail
    go_wp2_with fail
    refine NB.out.mono ?_
    rintro e w1 ⟨rfl, pb1, b1⟩
    have PB1 := hide pb1
    have B1 := hide b1
    clear pb1 b1
    go_wp2_with fail
    go_loopw [19] (fun v wr => ∃ (k m : Nat) (L : Prs Hd), v = .int .i64 (k : Int) ∧ k ≤ N ∧ PB wr (w.heap.size + 1) m L ∧ w.heap.size ≤ m ∧ Below w.heap.size w wr ∧ At tx us k L) (fun v _ => N + 1 - (intOf v).toNat)
    case atStart => exact ⟨0, w.heap.size, [], rfl, Nat.zero_le _, PB1.out, Nat.le_refl _, B1.out, At.zero _ _⟩
    case round =>
      obtain ⟨k, m, L, rfl, hk, pb, hm, hb, at_⟩ := hrel
      have PBH := hide pb
      have BH := hide hb
      have AT := hide at_
      clear pb hb at_
      by_cases hlt : k < N
      · have d1 : decide ((k : Int) < (N : Int)) = true := decide_eq_true (by omega)
        have d2 : (k : Int) < (N : Int) := by omega
        have hx : k < rs.length := by have := HN.out; omega
        have hxu : k < us.length := by rw [HUS.out, List.length_map]; exact hx
        obtain ⟨b1, o1, rfl, l1, c1⟩ := rz_at HLR.out k hx
        obtain ⟨x, hxx⟩ : ∃ z, z = rs[k] := ⟨_, rfl⟩
        have hux : us[k] = urOf x := by
          have e := HUS.out
          have q : us[k]? = some (urOf x) := by rw [e, List.getElem?_map, List.getElem?_eq_getElem hx, hxx]; rfl
          rw [List.getElem?_eq_getElem hxu] at q
          exact Option.some.inj q
        have ix := HIR.out _ (List.getElem_mem hx)
        rw [← hxx] at ix c1
        obtain ⟨A, hA⟩ : ∃ A, A = rzA x := ⟨_, rfl⟩
        obtain ⟨u, hu⟩ : ∃ z, z = urOf x := ⟨_, rfl⟩
        have rf : RF A u := by rw [hA, hu]; exact RF.of x
        have i1 : I64 u.id := by rw [hu]; exact ix.2
        have i2 : I64 u.delta := by rw [hu]; exact ix.1
        rw [← hA] at c1
        rw [← hu] at hux
        clear hA hu hxx ix
        have hmn : L.length + 1 < 1000000000000 := by have := AT.out.n; omega
        have C1 := hide (show ∀ wq, Below w.heap.size w wq → ∀ j v, A.toList[j]? = some v → wq.cell? ⟨b1, o1 + k * 17 + j, none⟩ = some v from fun wq hq j v hv => (hq.cell (p := ⟨b1, o1 + k * 17 + j, none⟩) l1).trans (c1 j v hv))
        have RFH := hide rf
        have I1 := hide i1
        have I2 := hide i2
        have HUX := hide hux
        obtain ⟨X, hX⟩ : ∃ z, z = wr.heap.size := ⟨_, rfl⟩
        have HX := hide hX
        clear c1 l1 rf i1 i2 hux
        have c2 := RFH.out.c2
        have hmm : w.heap.size ≤ m := hm
        have PB3 := hide (show ∀ (w3 : World), Keep (fun z => z = wr.heap.size) (wr.alloc (.cells (rzA rz0) 53)) w3 → PB w3 (w.heap.size + 1) m L ∧ Below w.heap.size w w3 from fun w3 hk => by
          have lt := PBH.out.lt
          have q := newBox hk
          exact ⟨PBH.out.below q, BH.out.trans (q.mono BH.out.size)⟩)
        by_cases hq : u.tx = tx
        · rw [hq] at c2
          by_cases he : stepE L u = 0
          · have AT2 := hide (show At tx us (k + 1) (stepL L u) by
              have z := AT.out.step hxu (by rw [HUX.out]; exact hq) (by rw [HUX.out]; exact he) (by rw [HUX.out]; exact I1.out)
              rw [HUX.out] at z
              exact z)
            have KR := hide (fun (w3 : World) (h3 : PB w3 (w.heap.size + 1) m L) => read_ok (w.heap.size + 1) m L A u w3 h3 RFH.out I1.out I2.out hmn he)
            clear he hmn hq
            go_upto_region 6 with fail
            go_wp2_with (first
              | refine wpList_ld (C1.out _ BH.out) RFH.out.sz rfl ?_
              | (refine wpList_st (RBox.new _ _ _) rfl RFH.out.sz RFH.out.one rfl rfl ?_; intro w3 rb3 k3; have q2 := RFH.out.cell rb3 c2; have RB3 := hide rb3; have K3 := hide k3; clear rb3 k3)
              | refine wpList_lb RB3.out RFH.out.sz rfl ?_
              | fail)
            refine (KR.out _ (PB3.out _ K3.out).1).mono ?_
            rintro e w4 ⟨rfl, ⟨m', p4, hm'⟩, k4⟩
            have P4 := hide p4
            have B4 := hide (bkeep (PB3.out _ K3.out).2 k4 (Nat.le_refl _) (fun j hj => by rcases hj with rfl | rfl <;> omega))
            have M4 := hide (show w.heap.size ≤ m' by
              rcases hm' with rfl | q
              · exact hmm
              · have := (PB3.out _ K3.out).2.size; omega)
            clear p4 hm' k4
            go_wp2_with fail
            go_roundw
            case rel => exact ⟨k + 1, m', _, by go_num, by omega, P4.out, M4.out, B4.out, AT2.out⟩
            case measure => simp [intOf]; omega
          · have BAD := hide (AT.out.bad HT.out hxu (by rw [HUX.out]; exact hq) (by rw [HUX.out]; exact he))
            have KR := hide (fun (w3 : World) (h3 : PB w3 (w.heap.size + 1) m L) => read_bad (w.heap.size + 1) m L A u w3 h3 RFH.out I1.out I2.out hmn)
            rw [HUX.out] at BAD
            obtain ⟨E, hE⟩ : ∃ E, E = stepE L u := ⟨_, rfl⟩
            rw [← hE] at KR BAD he
            have ne : ((E : Nat) : Int) ≠ 0 := by omega
            have nd : decide (((E : Nat) : Int) = 0) = false := decide_eq_false ne
            have NE := hide ne
            clear he hmn hq hE
            go_upto_region 6 with fail
            go_wp2_with (first
              | refine wpList_ld (C1.out _ BH.out) RFH.out.sz rfl ?_
              | (refine wpList_st (RBox.new _ _ _) rfl RFH.out.sz RFH.out.one rfl rfl ?_; intro w3 rb3 k3; have q2 := RFH.out.cell rb3 c2; have RB3 := hide rb3; have K3 := hide k3; clear rb3 k3)
              | refine wpList_lb RB3.out RFH.out.sz rfl ?_
              | fail)
            refine (KR.out _ (PB3.out _ K3.out).1).mono ?_
            rintro e w4 ⟨rfl, k4⟩
            have B4 := hide (bkeep (PB3.out _ K3.out).2 k4 (Nat.le_refl _) (fun j hj => by rcases hj with rfl | rfl <;> omega))
            clear k4
            go_wp2_with fail
            go_ret2
            rw [BAD.out.1, BAD.out.2]
            exact ⟨_, rfl, World.ownsRow_nil _ _ _ _, B4.out⟩
        · have AT2 := hide (AT.out.skip hxu (by rw [HUX.out]; exact hq))
          have nd : decide (u.tx = tx) = false := decide_eq_false hq
          have nb : (u.tx == tx) = false := by simpa using hq
          clear hmn
          go_upto_region 6 with fail
          go_wp2_with (first
            | refine wpList_ld (C1.out _ BH.out) RFH.out.sz rfl ?_
            | (refine wpList_st (RBox.new _ _ _) rfl RFH.out.sz RFH.out.one rfl rfl ?_; intro w3 rb3 k3; have q2 := RFH.out.cell rb3 c2; have RB3 := hide rb3; have K3 := hide k3; clear rb3 k3)
            | refine wpList_lb RB3.out RFH.out.sz rfl ?_
            | fail)
          go_roundw
          case rel => exact ⟨k + 1, m, _, by go_num, by omega, (PB3.out _ K3.out).1, hmm, (PB3.out _ K3.out).2, AT2.out⟩
          case measure => simp [intOf]; omega
      · obtain rfl : N = k := by omega
        have d1 : decide ((N : Int) < (N : Int)) = false := decide_eq_false (by omega)
        have eN : us.length = N := by rw [HUS.out, List.length_map, ← HN.out]
        have q := AT.out
        rw [← eN] at q
        obtain ⟨z1, z2⟩ := q.done HT.out
        have UN := hide (undos_any (w.heap.size + 1) m L tx wr PBH.out HIT.out AT.out.i (by have := AT.out.n; omega))
        have Z1 := hide z1
        have Z2 := hide z2
        clear q z1 z2 eN
        go_wp2_with fail
        refine UN.out.mono ?_
        rintro e w2 ⟨v, rfl, g2, b2⟩
        go_wp2_with fail
        go_ret2
        rw [Z1.out, Z2.out]
        exact ⟨_, rfl, GRow.mono g2 BH.out.size, BH.out.trans (b2.mono BH.out.size)⟩
  · have hx : isTx tx = false := by unfold isTx; simp; omega
    have e1 : leftE tx us = 130 := by unfold leftE; rw [hx]; rfl
    have e2 : leftL tx us = [] := by unfold leftL; rw [hx]; rfl
    rw [e1, e2]
    clear e1 e2 hx
    by_cases h1 : tx < 1
    · have t1 : decide (tx < 1) = true := decide_eq_true h1
      go_enter Tryz.func7, Tryz.ntmps7
      go_wp2_with fail
      go_ret2
      exact ⟨_, rfl, World.ownsRow_nil _ _ _ _, Below.refl _ _⟩
    · have t1 : decide (tx < 1) = false := decide_eq_false h1
      have t2 : decide (2147483647 < tx) = true := decide_eq_true (by omega)
      have t3 : decide (tx > 2147483647) = true := decide_eq_true (by omega)
      go_enter Tryz.func7, Tryz.ntmps7
      go_wp2_with fail
      go_ret2
      exact ⟨_, rfl, World.ownsRow_nil _ _ _ _, Below.refl _ _⟩
end Go.Proofs.YtehbpmibllpkhaaGreatDoor
