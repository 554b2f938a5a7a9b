import Derived.Test.YtimakfnlcgedkaaRg14
namespace Go.Proofs.Ytimakfnlcgedkaa
open Go.RowKit Go.QK Go.Maps Go.QM Go.QR
set_option maxRecDepth 100000
theorem keep8 {S : Nat → Prop} {w w' : World} {ob bl1 o1 bl2 o2 bl3 o3 i : Nat} {od p pw ps : Int × Int} (hk : Keep S w w') (hn : ¬ S ob ∧ ¬ S bl1 ∧ ¬ S bl2 ∧ ¬ S bl3)
    (h : (fun wq => wq.cell? ⟨ob, 0, none⟩ = some (.int .i64 od.1) ∧ wq.cell? ⟨ob, 1, none⟩ = some (.int .i64 od.2) ∧ wq.cell? ⟨bl1, o1 + i * 2, none⟩ = some (.int .i64 p.1) ∧ wq.cell? ⟨bl1, o1 + i * 2 + 1, none⟩ = some (.int .i64 p.2) ∧ wq.cell? ⟨bl2, o2 + i * 2, none⟩ = some (.int .i64 pw.1) ∧ wq.cell? ⟨bl2, o2 + i * 2 + 1, none⟩ = some (.int .i64 pw.2) ∧ wq.cell? ⟨bl3, o3 + i * 2, none⟩ = some (.int .i64 ps.1) ∧ wq.cell? ⟨bl3, o3 + i * 2 + 1, none⟩ = some (.int .i64 ps.2)) w) (hl : ob < w.heap.size ∧ bl1 < w.heap.size ∧ bl2 < w.heap.size ∧ bl3 < w.heap.size) : (fun wq => wq.cell? ⟨ob, 0, none⟩ = some (.int .i64 od.1) ∧ wq.cell? ⟨ob, 1, none⟩ = some (.int .i64 od.2) ∧ wq.cell? ⟨bl1, o1 + i * 2, none⟩ = some (.int .i64 p.1) ∧ wq.cell? ⟨bl1, o1 + i * 2 + 1, none⟩ = some (.int .i64 p.2) ∧ wq.cell? ⟨bl2, o2 + i * 2, none⟩ = some (.int .i64 pw.1) ∧ wq.cell? ⟨bl2, o2 + i * 2 + 1, none⟩ = some (.int .i64 pw.2) ∧ wq.cell? ⟨bl3, o3 + i * 2, none⟩ = some (.int .i64 ps.1) ∧ wq.cell? ⟨bl3, o3 + i * 2 + 1, none⟩ = some (.int .i64 ps.2)) w' := by
  obtain ⟨s0, s1, s2, s3, s4, s5, s6, s7⟩ := h
  obtain ⟨n0, n1, n2, n3⟩ := hn
  obtain ⟨l0, l1, l2, l3⟩ := hl
  exact ⟨(hk.cell (p := ⟨ob, 0, none⟩) l0 n0).trans s0, (hk.cell (p := ⟨ob, 1, none⟩) l0 n0).trans s1, (hk.cell (p := ⟨bl1, o1 + i * 2, none⟩) l1 n1).trans s2, (hk.cell (p := ⟨bl1, o1 + i * 2 + 1, none⟩) l1 n1).trans s3, (hk.cell (p := ⟨bl2, o2 + i * 2, none⟩) l2 n2).trans s4, (hk.cell (p := ⟨bl2, o2 + i * 2 + 1, none⟩) l2 n2).trans s5, (hk.cell (p := ⟨bl3, o3 + i * 2, none⟩) l3 n3).trans s6, (hk.cell (p := ⟨bl3, o3 + i * 2 + 1, none⟩) l3 n3).trans s7⟩
theorem ltk {a b c d n m : Nat} (h : a < n ∧ b < n ∧ c < n ∧ d < n) (q : n ≤ m) : a < m ∧ b < m ∧ c < m ∧ d < m := by omega
theorem take_odd {r : Reg} {c d : Int} {a b : SlotN} (hz : r.planE c d = 0) (hne : ¬ (a = r.planW c d ∧ b = r.planS c d)) : r.takeE c d a b = 83 ∧ r.take c d a b = r := by
  have e1 : r.takeE c d a b = 83 := by unfold Reg.takeE; rw [if_pos hz, if_neg hne]
  exact ⟨e1, by unfold Reg.take; rw [if_neg (by rw [e1]; decide)]⟩
theorem take_again {r : Reg} {c d : Int} {a b : SlotN} (hz : r.planE c d = 0) : (r.more c d).takeE c d a b = 121 ∧ (r.more c d).take c d a b = r.more c d := by
  obtain ⟨h1, h2, h3⟩ := planE_zero hz
  have e0 : (r.more c d).planE c d = 121 := by
    refine (planE_twice h1 ?_).1
    rw [Reg.nums_more, place_isSome]
    simp
  obtain ⟨e1, e2⟩ := takeE_no (r := r.more c d) (c := c) (d := d) (a := a) (b := b) (by rw [e0]; decide)
  exact ⟨e1.trans e0, e2⟩
set_option maxHeartbeats 8000000 in
theorem law_same (p0 : Int) (xs : List (Int × Int)) (sa : Option Addr) (sc : Nat) (ys : List (Int × Int)) (ta : Option Addr) (tc : Nat) (od : Int × Int) (w : World) (hli : Lies w sa (rowsC c2 xs)) (hlj : Lies w ta (rowsC c2 ys)) (hys : ∀ y ∈ ys, I64 y.1 ∧ I64 y.2) :
    Calls Try.prog 5 #[.int .i64 p0, .slice sa xs.length sc, .slice ta ys.length tc, slotV od] w fun e w' => e = .returned (.bool true) ∧ Below w.heap.size w w' := by
  have KR1 : ∀ w, Calls Try.prog 8 #[.int .i64 p0, .int .i64 2, .int .i64 64] w _ := fun w => rest_any p0 2 64 w (by omega) (by omega)
  have HLI := hide hli
  have HLJ := hide hlj
  have HYS := hide hys
  clear hli hlj hys
  go_enter Try.func5, Try.ntmps5
  go_wp2_with fail
  have b0 := alloc_below w (.cells #[.int .i64 od.1, .int .i64 od.2] 30)
  have O0 := hide (Cells.new w #[.int .i64 od.1, .int .i64 od.2] 30)
  refine (awake_any _).mono ?_
  rintro e w1 ⟨rfl, hb⟩
  have B1 := hide (b0.trans (hb.mono b0.size))
  have O1 := hide (O0.out.below hb)
  have OS := hide (show w.heap.size < w1.heap.size by have := hb.size; simp at this; omega)
  clear hb b0 O0
  go_wp2_with fail
  refine (KR1 _).mono ?_
  rintro e w2 ⟨P, rfl, hp1, hp2, hw2⟩
  rw [hw2]
  clear hw2 w2 KR1
  have KT := taken_any P xs sa sc w1 hp1 hp2 (HLI.out.below B1.out)
  unfold TkPost at KT
  have KN := fun w => new_yes P w hp1 hp2
  go_wp2_with fail
  refine KT.mono ?_
  rintro e w3 ⟨b, m, g, own, wh, su, v1, v2, v3, rfl, tk, hist, hb⟩
  have B3 := hide (B1.out.trans (hb.mono B1.out.size))
  have T3 := hide tk
  have HH := hide hist
  have O3 := hide (O1.out.keep (Keep.of_below (S := fun _ => False) hb) id)
  have OB := hide (show w.heap.size ≤ w.heap.size ∧ w.heap.size < w3.heap.size by have := hb.size; have := OS.out; omega)
  clear KT tk hist hb B1 HLI O1 OS
  go_wp2_with fail
  refine (KN _).mono ?_
  rintro e w4 ⟨rfl, P4, hb, hs4⟩
  have TK_9 := hide (T3.out.below hb)
  have HB_9 := hide (B3.out.trans (hb.mono B3.out.size))
  have OD_9 := hide (O3.out.below hb)
  have UN := hide T3.out.under
  have NB := hide (show w3.heap.size ≤ w3.heap.size + 2 ∧ w3.heap.size ≤ w3.heap.size ∧ w3.heap.size ≤ w3.heap.size + 1 by omega)
  have PQ_9 := hide (show PR w4 (w3.heap.size + 2) w3.heap.size (w3.heap.size + 1) (build P (own.take 0)) from P4)
  clear P4 hb hs4 T3 B3 O3 KN
  obtain ⟨N, hN⟩ : ∃ N, N = w3.heap.size := ⟨_, rfl⟩
  rw [← hN] at UN NB PQ_9 OB ⊢
  clear hN
  obtain ⟨bq, hbq⟩ : ∃ x, x = N + 2 := ⟨_, rfl⟩
  obtain ⟨mq, hmq⟩ : ∃ x, x = N := ⟨_, rfl⟩
  obtain ⟨gq, hgq⟩ : ∃ x, x = N + 1 := ⟨_, rfl⟩
  have PQ_8 := hide (show PR w4 bq mq gq (build P (own.take 0)) by rw [hbq, hmq, hgq]; exact PQ_9.out)
  have NB2 := hide (show N ≤ bq ∧ N ≤ mq ∧ N ≤ gq by omega)
  rw [← hbq]
  clear PQ_9 NB hbq hmq hgq
  have NB := hide NB2.out
  have PQ_9 := hide PQ_8.out
  clear NB2 PQ_8
  obtain ⟨ob, hob⟩ : ∃ x, x = w.heap.size := ⟨_, rfl⟩
  rw [← hob] at OD_9 ⊢
  have OB2 := hide (show w.heap.size ≤ ob ∧ ob < N by have := OB.out; omega)
  clear OB hob
  have OB := hide OB2.out
  clear OB2
  obtain ⟨a1, c1, q1, -⟩ := GRow.lies TK_9.out.r1
  obtain ⟨a2, c2', q2, -⟩ := GRow.lies TK_9.out.r2
  obtain ⟨a3, c3, q3, -⟩ := GRow.lies TK_9.out.r3
  have EL1 := hide HH.out.l1
  have EL2 := hide HH.out.l2
  subst q1 q2 q3
  have hn0 : own.length ≤ 1984 := by have := TK_9.out.pr.ok.lens.1; rw [(build_C P own).1] at this; exact this
  go_wp2_with (go_at_call 10; refine (num_eq _ _).mono ?_; rintro e wz ⟨rfl, rfl⟩)
  go_loopw [16] (fun z3 wr => ∃ i : Nat, z3 = .int .i64 (i : Int) ∧ i ≤ own.length ∧ Tk wr w1.heap.size b m g (build P own) (.slice a1 own.length c1) (.slice a2 wh.length c2') (.slice a3 su.length c3) own wh su ∧ PR wr bq mq gq (build P (own.take i)) ∧ Cells wr ob [.int .i64 od.1, .int .i64 od.2] ∧ Below w.heap.size w wr) (fun v _ => own.length - (intOf v).toNat)
  case atStart => exact ⟨0, rfl, Nat.zero_le _, TK_9.out, PQ_9.out, OD_9.out, HB_9.out⟩
  case round =>
    obtain ⟨i, rfl, hi, tk, pq, oc, hb⟩ := hrel
    have TK_a := hide tk
    have PQ_a := hide pq
    have OD_a := hide oc
    have HB_a := hide hb
    clear tk pq oc hb TK_9 PQ_9 OD_9 HB_9
    by_cases hlt : i < own.length
    · obtain ⟨p, hp⟩ : ∃ p, own[i]? = some p := ⟨_, List.getElem?_eq_getElem hlt⟩
      obtain ⟨hz, hw, hs0⟩ := HH.out.each i p hp
      have NX := HH.out.next hp
      obtain ⟨pw, hpw⟩ : ∃ x, x = (build P (own.take i)).planW p.1 p.2 := ⟨_, rfl⟩
      obtain ⟨ps, hps⟩ : ∃ x, x = (build P (own.take i)).planS p.1 p.2 := ⟨_, rfl⟩
      have KT := fun (x y : SlotN) w' (h : PR w' bq mq gq (build P (own.take i))) => take_any bq mq gq (build P (own.take i)) p.1 p.2 x y w' h
      have KT2 := fun (x y : SlotN) w' (h : PR w' bq mq gq (build P (own.take (i + 1)))) => take_any bq mq gq (build P (own.take (i + 1))) p.1 p.2 x y w' h
      unfold TakePost at KT KT2
      have KC := KT pw ps
      have KD := KT2 pw ps
      have ty := takeE_yes hz hpw hps
      have ta' := take_again (a := pw) (b := ps) hz
      rw [← NX] at ty ta'
      rw [ty.1, ty.2] at KC
      rw [ta'.1, ta'.2] at KD
      have KA := KT od ps
      have KB := KT pw od
      have TA : od ≠ pw → (build P (own.take i)).takeE p.1 p.2 od ps = 83 ∧ (build P (own.take i)).take p.1 p.2 od ps = build P (own.take i) := fun q => take_odd hz (fun e => q (e.1.trans hpw.symm))
      have TB : od ≠ ps → (build P (own.take i)).takeE p.1 p.2 pw od = 83 ∧ (build P (own.take i)).take p.1 p.2 pw od = build P (own.take i) := fun q => take_odd hz (fun e => q (e.2.trans hps.symm))
      rw [← hpw] at hw
      rw [← hps] at hs0
      clear ty ta' KT KT2 hpw hps hz NX
      obtain ⟨bl1, o1, cc1, e1, l1, x0, x1, g1⟩ := rowc TK_a.out.r1 hp
      obtain ⟨bl2, o2, cc2, e2, l2, y0, y1, g2⟩ := rowc TK_a.out.r2 hw
      obtain ⟨bl3, o3, cc3, e3, l3, z0, z1, g3⟩ := rowc TK_a.out.r3 hs0
      have ME := hide (show ¬ (ob = mq ∨ ob = gq) ∧ ¬ (bl1 = mq ∨ bl1 = gq) ∧ ¬ (bl2 = mq ∨ bl2 = gq) ∧ ¬ (bl3 = mq ∨ bl3 = gq) by
        have := UN.out.2.1 _ g1
        have := UN.out.2.2.1 _ g2
        have := UN.out.2.2.2 _ g3
        have := NB.out
        have := OB.out
        omega)
      have CS := hide (show (fun wq => wq.cell? ⟨ob, 0, none⟩ = some (.int .i64 od.1) ∧ wq.cell? ⟨ob, 1, none⟩ = some (.int .i64 od.2) ∧ wq.cell? ⟨bl1, o1 + i * 2, none⟩ = some (.int .i64 p.1) ∧ wq.cell? ⟨bl1, o1 + i * 2 + 1, none⟩ = some (.int .i64 p.2) ∧ wq.cell? ⟨bl2, o2 + i * 2, none⟩ = some (.int .i64 pw.1) ∧ wq.cell? ⟨bl2, o2 + i * 2 + 1, none⟩ = some (.int .i64 pw.2) ∧ wq.cell? ⟨bl3, o3 + i * 2, none⟩ = some (.int .i64 ps.1) ∧ wq.cell? ⟨bl3, o3 + i * 2 + 1, none⟩ = some (.int .i64 ps.2)) wr from ⟨(OD_a.out.get 0 _ rfl).1, (OD_a.out.get 1 _ rfl).1, x0, x1, y0, y1, z0, z1⟩)
      have LT_a : ob < wr.heap.size ∧ bl1 < wr.heap.size ∧ bl2 < wr.heap.size ∧ bl3 < wr.heap.size := ⟨OD_a.out.1, l1, l2, l3⟩
      cases e1
      cases e2
      cases e3
      have hlw : i < wh.length := by have := EL1.out; omega
      have hls : i < su.length := by have := EL2.out; omega
      have HP3 := hide (And.intro hp (And.intro hw hs0))
      clear hw hs0 hp g1 g2 g3 x0 x1 y0 y1 z0 z1 l1 l2 l3
      go_upto_region 11 with fail
      go_cut [122] from 67 to 121 (fun v w' => v = .bool false ∧ Tk w' w1.heap.size b m g (build P own) (.slice (some ⟨bl1, o1, none⟩) own.length c1) (.slice (some ⟨bl2, o2, none⟩) wh.length c2') (.slice (some ⟨bl3, o3, none⟩) su.length c3) own wh su ∧ PR w' bq mq gq (build P (own.take i)) ∧ Cells w' ob [.int .i64 od.1, .int .i64 od.2] ∧ Below w.heap.size w w')
      case first =>
        refine wp_region_held_drew (S := fun wq => wq.cell? ⟨ob, 0, none⟩ = some (.int .i64 od.1) ∧ wq.cell? ⟨ob, 1, none⟩ = some (.int .i64 od.2) ∧ wq.cell? ⟨bl1, o1 + i * 2, none⟩ = some (.int .i64 p.1) ∧ wq.cell? ⟨bl1, o1 + i * 2 + 1, none⟩ = some (.int .i64 p.2) ∧ wq.cell? ⟨bl2, o2 + i * 2, none⟩ = some (.int .i64 pw.1) ∧ wq.cell? ⟨bl2, o2 + i * 2 + 1, none⟩ = some (.int .i64 pw.2) ∧ wq.cell? ⟨bl3, o3 + i * 2, none⟩ = some (.int .i64 ps.1) ∧ wq.cell? ⟨bl3, o3 + i * 2 + 1, none⟩ = some (.int .i64 ps.2)) (by kernel_rfl) CS.out (fun hS => ?_)
        have TK_0 := hide (TK_a.out.below (Below.refl _ _).drew)
        have PQ_0 := hide (PQ_a.out.below (Below.refl _ _).drew)
        have OD_0 := hide (OD_a.out.drew)
        have HB_0 := hide (HB_a.out.drew)
        have LT_0 : ob < wr.drew.heap.size ∧ bl1 < wr.drew.heap.size ∧ bl2 < wr.drew.heap.size ∧ bl3 < wr.drew.heap.size := LT_a
        clear TK_a PQ_a OD_a HB_a LT_a CS
        generalize wr.drew = x_0 at *
        by_cases hq1 : od = pw
        · have H1 := hide hq1
          clear hq1 TA KA
          by_cases hq2 : od = ps
          · have H2 := hide hq2
            clear hq2 TB KB
            as_aux_lemma =>
              refine take_at 0 (some 67) (v := ?_) rfl rfl (by kernel_rfl) (by kernel_rfl) (by kernel_rfl) (fun _ _ _ h => h) ⟨by rfl, ?_⟩ hS ?_
              rotate_left
              · intro wq hSw; obtain ⟨s0, s1, s2, s3, s4, s5, s6, s7⟩ := hSw; go_simp; try rfl
              simp only [Act.put, List.setIfInBounds_toArray, List.set_cons_zero, List.set_cons_succ]
              refine take_at 1 (some 68) (v := ?_) rfl rfl (by kernel_rfl) (by kernel_rfl) (by kernel_rfl) (fun _ _ _ h => h) ⟨by rfl, ?_⟩ hS ?_
              rotate_left
              · intro wq hSw; go_simp; try rfl
              simp only [Act.put, List.setIfInBounds_toArray, List.set_cons_zero, List.set_cons_succ]
              refine take_at 2 (some 69) (v := ?_) rfl rfl (by kernel_rfl) (by kernel_rfl) (by kernel_rfl) (fun _ _ _ h => h) ⟨by rfl, ?_⟩ hS ?_
              rotate_left
              · intro wq hSw; go_simp; try rfl
              simp only [Act.put, List.setIfInBounds_toArray, List.set_cons_zero, List.set_cons_succ]
              refine take_at 3 (some 70) (v := ?_) rfl rfl (by kernel_rfl) (by kernel_rfl) (by kernel_rfl) (fun _ _ _ h => h) ⟨by rfl, ?_⟩ hS ?_
              rotate_left
              · intro wq hSw; go_simp; try rfl
              simp only [Act.put, List.setIfInBounds_toArray, List.set_cons_zero, List.set_cons_succ]
              refine take_at 4 (some 71) (v := ?_) rfl rfl (by kernel_rfl) (by kernel_rfl) (by kernel_rfl) (fun _ _ _ h => h) ⟨by rfl, ?_⟩ hS ?_
              rotate_left
              · intro wq hSw; obtain ⟨s0, s1, s2, s3, s4, s5, s6, s7⟩ := hSw; go_simp; try rfl
              simp only [Act.put, List.setIfInBounds_toArray, List.set_cons_zero, List.set_cons_succ]
              refine take_at 5 (some 72) (v := .bool false) rfl rfl (by kernel_rfl) (by kernel_rfl) (by kernel_rfl) (fun _ _ _ h => h) ⟨by rfl, ?_⟩ hS ?_
              · intro wq hSw; obtain ⟨s0, s1, s2, s3, s4, s5, s6, s7⟩ := hSw; have q1 := congrArg Prod.fst H1.out; have q2 := congrArg Prod.snd H1.out; go_simp <;> try rfl
              simp only [Act.put, List.setIfInBounds_toArray, List.set_cons_zero, List.set_cons_succ]
              refine take_at 6 (some 73) (v := ?_) rfl rfl (by kernel_rfl) (by kernel_rfl) (by kernel_rfl) (fun _ _ _ h => h) ⟨by rfl, ?_⟩ hS ?_
              rotate_left
              · intro wq hSw; go_simp; try rfl
              simp only [Act.put, List.setIfInBounds_toArray, List.set_cons_zero, List.set_cons_succ]
              refine pass_at 7 (some 74) rfl rfl (by kernel_rfl) (by kernel_rfl) (by kernel_rfl) (fun _ _ _ h => h) (by rfl) hS ?_
              simp only [Act.put, List.setIfInBounds_toArray, List.set_cons_zero, List.set_cons_succ]
              refine pass_at 8 (some 75) rfl rfl (by kernel_rfl) (by kernel_rfl) (by kernel_rfl) (fun _ _ _ h => h) (by rfl) hS ?_
              simp only [Act.put, List.setIfInBounds_toArray, List.set_cons_zero, List.set_cons_succ]
              refine pass_at 9 (some 76) rfl rfl (by kernel_rfl) (by kernel_rfl) (by kernel_rfl) (fun _ _ _ h => h) (by rfl) hS ?_
              simp only [Act.put, List.setIfInBounds_toArray, List.set_cons_zero, List.set_cons_succ]
              refine pass_at 10 (some 77) rfl rfl (by kernel_rfl) (by kernel_rfl) (by kernel_rfl) (fun _ _ _ h => h) (by rfl) hS ?_
              simp only [Act.put, List.setIfInBounds_toArray, List.set_cons_zero, List.set_cons_succ]
              refine pass_at 11 (some 78) rfl rfl (by kernel_rfl) (by kernel_rfl) (by kernel_rfl) (fun _ _ _ h => h) (by rfl) hS ?_
              simp only [Act.put, List.setIfInBounds_toArray, List.set_cons_zero, List.set_cons_succ]
              refine pass_at 12 (some 79) rfl rfl (by kernel_rfl) (by kernel_rfl) (by kernel_rfl) (fun _ _ _ h => h) (by rfl) hS ?_
              simp only [Act.put, List.setIfInBounds_toArray, List.set_cons_zero, List.set_cons_succ]
              refine pass_at 13 (some 80) rfl rfl (by kernel_rfl) (by kernel_rfl) (by kernel_rfl) (fun _ _ _ h => h) (by rfl) hS ?_
              simp only [Act.put, List.setIfInBounds_toArray, List.set_cons_zero, List.set_cons_succ]
              refine pass_at 14 (some 81) rfl rfl (by kernel_rfl) (by kernel_rfl) (by kernel_rfl) (fun _ _ _ h => h) (by rfl) hS ?_
              simp only [Act.put, List.setIfInBounds_toArray, List.set_cons_zero, List.set_cons_succ]
              refine pass_at 15 (some 82) rfl rfl (by kernel_rfl) (by kernel_rfl) (by kernel_rfl) (fun _ _ _ h => h) (by rfl) hS ?_
              simp only [Act.put, List.setIfInBounds_toArray, List.set_cons_zero, List.set_cons_succ]
              refine pass_at 16 (some 83) rfl rfl (by kernel_rfl) (by kernel_rfl) (by kernel_rfl) (fun _ _ _ h => h) (by rfl) hS ?_
              simp only [Act.put, List.setIfInBounds_toArray, List.set_cons_zero, List.set_cons_succ]
              refine pass_at 17 (some 84) rfl rfl (by kernel_rfl) (by kernel_rfl) (by kernel_rfl) (fun _ _ _ h => h) (by rfl) hS ?_
              simp only [Act.put, List.setIfInBounds_toArray, List.set_cons_zero, List.set_cons_succ]
              refine pass_at 18 (some 85) rfl rfl (by kernel_rfl) (by kernel_rfl) (by kernel_rfl) (fun _ _ _ h => h) (by rfl) hS ?_
              simp only [Act.put, List.setIfInBounds_toArray, List.set_cons_zero, List.set_cons_succ]
              refine pass_at 19 (some 86) rfl rfl (by kernel_rfl) (by kernel_rfl) (by kernel_rfl) (fun _ _ _ h => h) (by rfl) hS ?_
              simp only [Act.put, List.setIfInBounds_toArray, List.set_cons_zero, List.set_cons_succ]
              refine pass_at 20 (some 87) rfl rfl (by kernel_rfl) (by kernel_rfl) (by kernel_rfl) (fun _ _ _ h => h) (by rfl) hS ?_
              simp only [Act.put, List.setIfInBounds_toArray, List.set_cons_zero, List.set_cons_succ]
              refine pass_at 21 (some 88) rfl rfl (by kernel_rfl) (by kernel_rfl) (by kernel_rfl) (fun _ _ _ h => h) (by rfl) hS ?_
              simp only [Act.put, List.setIfInBounds_toArray, List.set_cons_zero, List.set_cons_succ]
              refine pass_at 22 (some 89) rfl rfl (by kernel_rfl) (by kernel_rfl) (by kernel_rfl) (fun _ _ _ h => h) (by rfl) hS ?_
              simp only [Act.put, List.setIfInBounds_toArray, List.set_cons_zero, List.set_cons_succ]
              refine pass_at 23 (some 90) rfl rfl (by kernel_rfl) (by kernel_rfl) (by kernel_rfl) (fun _ _ _ h => h) (by rfl) hS ?_
              simp only [Act.put, List.setIfInBounds_toArray, List.set_cons_zero, List.set_cons_succ]
              refine pass_at 24 (some 91) rfl rfl (by kernel_rfl) (by kernel_rfl) (by kernel_rfl) (fun _ _ _ h => h) (by rfl) hS ?_
              simp only [Act.put, List.setIfInBounds_toArray, List.set_cons_zero, List.set_cons_succ]
              refine pass_at 25 (some 92) rfl rfl (by kernel_rfl) (by kernel_rfl) (by kernel_rfl) (fun _ _ _ h => h) (by rfl) hS ?_
              simp only [Act.put, List.setIfInBounds_toArray, List.set_cons_zero, List.set_cons_succ]
              refine take_at 26 (some 93) (v := ?_) rfl rfl (by kernel_rfl) (by kernel_rfl) (by kernel_rfl) (fun _ _ _ h => h) ⟨by rfl, ?_⟩ hS ?_
              rotate_left
              · intro wq hSw; go_simp; try rfl
              simp only [Act.put, List.setIfInBounds_toArray, List.set_cons_zero, List.set_cons_succ]
              refine take_at 27 (some 94) (v := ?_) rfl rfl (by kernel_rfl) (by kernel_rfl) (by kernel_rfl) (fun _ _ _ h => h) ⟨by rfl, ?_⟩ hS ?_
              rotate_left
              · intro wq hSw; go_simp; try rfl
              simp only [Act.put, List.setIfInBounds_toArray, List.set_cons_zero, List.set_cons_succ]
              refine take_at 28 (some 95) (v := ?_) rfl rfl (by kernel_rfl) (by kernel_rfl) (by kernel_rfl) (fun _ _ _ h => h) ⟨by rfl, ?_⟩ hS ?_
              rotate_left
              · intro wq hSw; obtain ⟨s0, s1, s2, s3, s4, s5, s6, s7⟩ := hSw; go_simp; try rfl
              simp only [Act.put, List.setIfInBounds_toArray, List.set_cons_zero, List.set_cons_succ]
              refine take_at 29 (some 96) (v := ?_) rfl rfl (by kernel_rfl) (by kernel_rfl) (by kernel_rfl) (fun _ _ _ h => h) ⟨by rfl, ?_⟩ hS ?_
              rotate_left
              · intro wq hSw; go_simp; try rfl
              simp only [Act.put, List.setIfInBounds_toArray, List.set_cons_zero, List.set_cons_succ]
              refine take_at 30 (some 97) (v := ?_) rfl rfl (by kernel_rfl) (by kernel_rfl) (by kernel_rfl) (fun _ _ _ h => h) ⟨by rfl, ?_⟩ hS ?_
              rotate_left
              · intro wq hSw; go_simp; try rfl
              simp only [Act.put, List.setIfInBounds_toArray, List.set_cons_zero, List.set_cons_succ]
              refine take_at 31 (some 98) (v := ?_) rfl rfl (by kernel_rfl) (by kernel_rfl) (by kernel_rfl) (fun _ _ _ h => h) ⟨by rfl, ?_⟩ hS ?_
              rotate_left
              · intro wq hSw; go_simp; try rfl
              simp only [Act.put, List.setIfInBounds_toArray, List.set_cons_zero, List.set_cons_succ]
              refine take_at 32 (some 99) (v := ?_) rfl rfl (by kernel_rfl) (by kernel_rfl) (by kernel_rfl) (fun _ _ _ h => h) ⟨by rfl, ?_⟩ hS ?_
              rotate_left
              · intro wq hSw; obtain ⟨s0, s1, s2, s3, s4, s5, s6, s7⟩ := hSw; go_simp; try rfl
              simp only [Act.put, List.setIfInBounds_toArray, List.set_cons_zero, List.set_cons_succ]
              refine take_at 33 (some 100) (v := .bool false) rfl rfl (by kernel_rfl) (by kernel_rfl) (by kernel_rfl) (fun _ _ _ h => h) ⟨by rfl, ?_⟩ hS ?_
              · intro wq hSw; obtain ⟨s0, s1, s2, s3, s4, s5, s6, s7⟩ := hSw; have q1 := congrArg Prod.fst H2.out; have q2 := congrArg Prod.snd H2.out; go_simp <;> try rfl
              simp only [Act.put, List.setIfInBounds_toArray, List.set_cons_zero, List.set_cons_succ]
              refine take_at 34 (some 101) (v := ?_) rfl rfl (by kernel_rfl) (by kernel_rfl) (by kernel_rfl) (fun _ _ _ h => h) ⟨by rfl, ?_⟩ hS ?_
              rotate_left
              · intro wq hSw; go_simp; try rfl
              simp only [Act.put, List.setIfInBounds_toArray, List.set_cons_zero, List.set_cons_succ]
              refine pass_at 35 (some 102) rfl rfl (by kernel_rfl) (by kernel_rfl) (by kernel_rfl) (fun _ _ _ h => h) (by rfl) hS ?_
              simp only [Act.put, List.setIfInBounds_toArray, List.set_cons_zero, List.set_cons_succ]
              refine pass_at 36 (some 103) rfl rfl (by kernel_rfl) (by kernel_rfl) (by kernel_rfl) (fun _ _ _ h => h) (by rfl) hS ?_
              simp only [Act.put, List.setIfInBounds_toArray, List.set_cons_zero, List.set_cons_succ]
              refine pass_at 37 (some 104) rfl rfl (by kernel_rfl) (by kernel_rfl) (by kernel_rfl) (fun _ _ _ h => h) (by rfl) hS ?_
              simp only [Act.put, List.setIfInBounds_toArray, List.set_cons_zero, List.set_cons_succ]
              refine pass_at 38 (some 105) rfl rfl (by kernel_rfl) (by kernel_rfl) (by kernel_rfl) (fun _ _ _ h => h) (by rfl) hS ?_
              simp only [Act.put, List.setIfInBounds_toArray, List.set_cons_zero, List.set_cons_succ]
              refine pass_at 39 (some 106) rfl rfl (by kernel_rfl) (by kernel_rfl) (by kernel_rfl) (fun _ _ _ h => h) (by rfl) hS ?_
              simp only [Act.put, List.setIfInBounds_toArray, List.set_cons_zero, List.set_cons_succ]
              refine pass_at 40 (some 107) rfl rfl (by kernel_rfl) (by kernel_rfl) (by kernel_rfl) (fun _ _ _ h => h) (by rfl) hS ?_
              simp only [Act.put, List.setIfInBounds_toArray, List.set_cons_zero, List.set_cons_succ]
              refine pass_at 41 (some 108) rfl rfl (by kernel_rfl) (by kernel_rfl) (by kernel_rfl) (fun _ _ _ h => h) (by rfl) hS ?_
              simp only [Act.put, List.setIfInBounds_toArray, List.set_cons_zero, List.set_cons_succ]
              refine pass_at 42 (some 109) rfl rfl (by kernel_rfl) (by kernel_rfl) (by kernel_rfl) (fun _ _ _ h => h) (by rfl) hS ?_
              simp only [Act.put, List.setIfInBounds_toArray, List.set_cons_zero, List.set_cons_succ]
              refine pass_at 43 (some 110) rfl rfl (by kernel_rfl) (by kernel_rfl) (by kernel_rfl) (fun _ _ _ h => h) (by rfl) hS ?_
              simp only [Act.put, List.setIfInBounds_toArray, List.set_cons_zero, List.set_cons_succ]
              refine pass_at 44 (some 111) rfl rfl (by kernel_rfl) (by kernel_rfl) (by kernel_rfl) (fun _ _ _ h => h) (by rfl) hS ?_
              simp only [Act.put, List.setIfInBounds_toArray, List.set_cons_zero, List.set_cons_succ]
              refine pass_at 45 (some 112) rfl rfl (by kernel_rfl) (by kernel_rfl) (by kernel_rfl) (fun _ _ _ h => h) (by rfl) hS ?_
              simp only [Act.put, List.setIfInBounds_toArray, List.set_cons_zero, List.set_cons_succ]
              refine pass_at 46 (some 113) rfl rfl (by kernel_rfl) (by kernel_rfl) (by kernel_rfl) (fun _ _ _ h => h) (by rfl) hS ?_
              simp only [Act.put, List.setIfInBounds_toArray, List.set_cons_zero, List.set_cons_succ]
              refine pass_at 47 (some 114) rfl rfl (by kernel_rfl) (by kernel_rfl) (by kernel_rfl) (fun _ _ _ h => h) (by rfl) hS ?_
              simp only [Act.put, List.setIfInBounds_toArray, List.set_cons_zero, List.set_cons_succ]
              refine pass_at 48 (some 115) rfl rfl (by kernel_rfl) (by kernel_rfl) (by kernel_rfl) (fun _ _ _ h => h) (by rfl) hS ?_
              simp only [Act.put, List.setIfInBounds_toArray, List.set_cons_zero, List.set_cons_succ]
              refine pass_at 49 (some 116) rfl rfl (by kernel_rfl) (by kernel_rfl) (by kernel_rfl) (fun _ _ _ h => h) (by rfl) hS ?_
              simp only [Act.put, List.setIfInBounds_toArray, List.set_cons_zero, List.set_cons_succ]
              refine pass_at 50 (some 117) rfl rfl (by kernel_rfl) (by kernel_rfl) (by kernel_rfl) (fun _ _ _ h => h) (by rfl) hS ?_
              simp only [Act.put, List.setIfInBounds_toArray, List.set_cons_zero, List.set_cons_succ]
              refine pass_at 51 (some 118) rfl rfl (by kernel_rfl) (by kernel_rfl) (by kernel_rfl) (fun _ _ _ h => h) (by rfl) hS ?_
              simp only [Act.put, List.setIfInBounds_toArray, List.set_cons_zero, List.set_cons_succ]
              refine pass_at 52 (some 119) rfl rfl (by kernel_rfl) (by kernel_rfl) (by kernel_rfl) (fun _ _ _ h => h) (by rfl) hS ?_
              simp only [Act.put, List.setIfInBounds_toArray, List.set_cons_zero, List.set_cons_succ]
              refine pass_at 53 (some 120) rfl rfl (by kernel_rfl) (by kernel_rfl) (by kernel_rfl) (fun _ _ _ h => h) (by rfl) hS ?_
              simp only [Act.put, List.setIfInBounds_toArray, List.set_cons_zero, List.set_cons_succ]
              refine take_at 54 (some 121) (v := ?_) rfl rfl (by kernel_rfl) (by kernel_rfl) (by kernel_rfl) (fun _ _ _ h => h) ⟨by rfl, ?_⟩ hS ?_
              rotate_left
              · intro wq hSw; go_simp; try rfl
              simp only [Act.put, List.setIfInBounds_toArray, List.set_cons_zero, List.set_cons_succ]
              refine take_at 55 (some 122) (v := ?_) rfl rfl (by kernel_rfl) (by kernel_rfl) (by kernel_rfl) (fun _ _ _ h => h) ⟨by rfl, ?_⟩ hS ?_
              rotate_left
              · intro wq hSw; go_simp; try rfl
              simp only [Act.put, List.setIfInBounds_toArray, List.set_cons_zero, List.set_cons_succ]
              refine wpAnyH_done (by kernel_rfl) ?_ _
              go_wp2_with fail
              go_meet
              exact ⟨rfl, TK_0.out, PQ_0.out, OD_0.out, HB_0.out⟩
          · have H2 := hide hq2
            rw [(TB hq2).1, (TB hq2).2] at KB
            clear hq2 TB
            as_aux_lemma =>
              refine take_at 0 (some 67) (v := ?_) rfl rfl (by kernel_rfl) (by kernel_rfl) (by kernel_rfl) (fun _ _ _ h => h) ⟨by rfl, ?_⟩ hS ?_
              rotate_left
              · intro wq hSw; obtain ⟨s0, s1, s2, s3, s4, s5, s6, s7⟩ := hSw; go_simp; try rfl
              simp only [Act.put, List.setIfInBounds_toArray, List.set_cons_zero, List.set_cons_succ]
              refine take_at 1 (some 68) (v := ?_) rfl rfl (by kernel_rfl) (by kernel_rfl) (by kernel_rfl) (fun _ _ _ h => h) ⟨by rfl, ?_⟩ hS ?_
              rotate_left
              · intro wq hSw; go_simp; try rfl
              simp only [Act.put, List.setIfInBounds_toArray, List.set_cons_zero, List.set_cons_succ]
              refine take_at 2 (some 69) (v := ?_) rfl rfl (by kernel_rfl) (by kernel_rfl) (by kernel_rfl) (fun _ _ _ h => h) ⟨by rfl, ?_⟩ hS ?_
              rotate_left
              · intro wq hSw; go_simp; try rfl
              simp only [Act.put, List.setIfInBounds_toArray, List.set_cons_zero, List.set_cons_succ]
              refine take_at 3 (some 70) (v := ?_) rfl rfl (by kernel_rfl) (by kernel_rfl) (by kernel_rfl) (fun _ _ _ h => h) ⟨by rfl, ?_⟩ hS ?_
              rotate_left
              · intro wq hSw; go_simp; try rfl
              simp only [Act.put, List.setIfInBounds_toArray, List.set_cons_zero, List.set_cons_succ]
              refine take_at 4 (some 71) (v := ?_) rfl rfl (by kernel_rfl) (by kernel_rfl) (by kernel_rfl) (fun _ _ _ h => h) ⟨by rfl, ?_⟩ hS ?_
              rotate_left
              · intro wq hSw; obtain ⟨s0, s1, s2, s3, s4, s5, s6, s7⟩ := hSw; go_simp; try rfl
              simp only [Act.put, List.setIfInBounds_toArray, List.set_cons_zero, List.set_cons_succ]
              refine take_at 5 (some 72) (v := .bool false) rfl rfl (by kernel_rfl) (by kernel_rfl) (by kernel_rfl) (fun _ _ _ h => h) ⟨by rfl, ?_⟩ hS ?_
              · intro wq hSw; obtain ⟨s0, s1, s2, s3, s4, s5, s6, s7⟩ := hSw; have q1 := congrArg Prod.fst H1.out; have q2 := congrArg Prod.snd H1.out; go_simp <;> try rfl
              simp only [Act.put, List.setIfInBounds_toArray, List.set_cons_zero, List.set_cons_succ]
              refine take_at 6 (some 73) (v := ?_) rfl rfl (by kernel_rfl) (by kernel_rfl) (by kernel_rfl) (fun _ _ _ h => h) ⟨by rfl, ?_⟩ hS ?_
              rotate_left
              · intro wq hSw; go_simp; try rfl
              simp only [Act.put, List.setIfInBounds_toArray, List.set_cons_zero, List.set_cons_succ]
              refine pass_at 7 (some 74) rfl rfl (by kernel_rfl) (by kernel_rfl) (by kernel_rfl) (fun _ _ _ h => h) (by rfl) hS ?_
              simp only [Act.put, List.setIfInBounds_toArray, List.set_cons_zero, List.set_cons_succ]
              refine pass_at 8 (some 75) rfl rfl (by kernel_rfl) (by kernel_rfl) (by kernel_rfl) (fun _ _ _ h => h) (by rfl) hS ?_
              simp only [Act.put, List.setIfInBounds_toArray, List.set_cons_zero, List.set_cons_succ]
              refine pass_at 9 (some 76) rfl rfl (by kernel_rfl) (by kernel_rfl) (by kernel_rfl) (fun _ _ _ h => h) (by rfl) hS ?_
              simp only [Act.put, List.setIfInBounds_toArray, List.set_cons_zero, List.set_cons_succ]
              refine pass_at 10 (some 77) rfl rfl (by kernel_rfl) (by kernel_rfl) (by kernel_rfl) (fun _ _ _ h => h) (by rfl) hS ?_
              simp only [Act.put, List.setIfInBounds_toArray, List.set_cons_zero, List.set_cons_succ]
              refine pass_at 11 (some 78) rfl rfl (by kernel_rfl) (by kernel_rfl) (by kernel_rfl) (fun _ _ _ h => h) (by rfl) hS ?_
              simp only [Act.put, List.setIfInBounds_toArray, List.set_cons_zero, List.set_cons_succ]
              refine pass_at 12 (some 79) rfl rfl (by kernel_rfl) (by kernel_rfl) (by kernel_rfl) (fun _ _ _ h => h) (by rfl) hS ?_
              simp only [Act.put, List.setIfInBounds_toArray, List.set_cons_zero, List.set_cons_succ]
              refine pass_at 13 (some 80) rfl rfl (by kernel_rfl) (by kernel_rfl) (by kernel_rfl) (fun _ _ _ h => h) (by rfl) hS ?_
              simp only [Act.put, List.setIfInBounds_toArray, List.set_cons_zero, List.set_cons_succ]
              refine pass_at 14 (some 81) rfl rfl (by kernel_rfl) (by kernel_rfl) (by kernel_rfl) (fun _ _ _ h => h) (by rfl) hS ?_
              simp only [Act.put, List.setIfInBounds_toArray, List.set_cons_zero, List.set_cons_succ]
              refine pass_at 15 (some 82) rfl rfl (by kernel_rfl) (by kernel_rfl) (by kernel_rfl) (fun _ _ _ h => h) (by rfl) hS ?_
              simp only [Act.put, List.setIfInBounds_toArray, List.set_cons_zero, List.set_cons_succ]
              refine pass_at 16 (some 83) rfl rfl (by kernel_rfl) (by kernel_rfl) (by kernel_rfl) (fun _ _ _ h => h) (by rfl) hS ?_
              simp only [Act.put, List.setIfInBounds_toArray, List.set_cons_zero, List.set_cons_succ]
              refine pass_at 17 (some 84) rfl rfl (by kernel_rfl) (by kernel_rfl) (by kernel_rfl) (fun _ _ _ h => h) (by rfl) hS ?_
              simp only [Act.put, List.setIfInBounds_toArray, List.set_cons_zero, List.set_cons_succ]
              refine pass_at 18 (some 85) rfl rfl (by kernel_rfl) (by kernel_rfl) (by kernel_rfl) (fun _ _ _ h => h) (by rfl) hS ?_
              simp only [Act.put, List.setIfInBounds_toArray, List.set_cons_zero, List.set_cons_succ]
              refine pass_at 19 (some 86) rfl rfl (by kernel_rfl) (by kernel_rfl) (by kernel_rfl) (fun _ _ _ h => h) (by rfl) hS ?_
              simp only [Act.put, List.setIfInBounds_toArray, List.set_cons_zero, List.set_cons_succ]
              refine pass_at 20 (some 87) rfl rfl (by kernel_rfl) (by kernel_rfl) (by kernel_rfl) (fun _ _ _ h => h) (by rfl) hS ?_
              simp only [Act.put, List.setIfInBounds_toArray, List.set_cons_zero, List.set_cons_succ]
              refine pass_at 21 (some 88) rfl rfl (by kernel_rfl) (by kernel_rfl) (by kernel_rfl) (fun _ _ _ h => h) (by rfl) hS ?_
              simp only [Act.put, List.setIfInBounds_toArray, List.set_cons_zero, List.set_cons_succ]
              refine pass_at 22 (some 89) rfl rfl (by kernel_rfl) (by kernel_rfl) (by kernel_rfl) (fun _ _ _ h => h) (by rfl) hS ?_
              simp only [Act.put, List.setIfInBounds_toArray, List.set_cons_zero, List.set_cons_succ]
              refine pass_at 23 (some 90) rfl rfl (by kernel_rfl) (by kernel_rfl) (by kernel_rfl) (fun _ _ _ h => h) (by rfl) hS ?_
              simp only [Act.put, List.setIfInBounds_toArray, List.set_cons_zero, List.set_cons_succ]
              refine pass_at 24 (some 91) rfl rfl (by kernel_rfl) (by kernel_rfl) (by kernel_rfl) (fun _ _ _ h => h) (by rfl) hS ?_
              simp only [Act.put, List.setIfInBounds_toArray, List.set_cons_zero, List.set_cons_succ]
              refine pass_at 25 (some 92) rfl rfl (by kernel_rfl) (by kernel_rfl) (by kernel_rfl) (fun _ _ _ h => h) (by rfl) hS ?_
              simp only [Act.put, List.setIfInBounds_toArray, List.set_cons_zero, List.set_cons_succ]
              refine take_at 26 (some 93) (v := ?_) rfl rfl (by kernel_rfl) (by kernel_rfl) (by kernel_rfl) (fun _ _ _ h => h) ⟨by rfl, ?_⟩ hS ?_
              rotate_left
              · intro wq hSw; go_simp; try rfl
              simp only [Act.put, List.setIfInBounds_toArray, List.set_cons_zero, List.set_cons_succ]
              refine take_at 27 (some 94) (v := ?_) rfl rfl (by kernel_rfl) (by kernel_rfl) (by kernel_rfl) (fun _ _ _ h => h) ⟨by rfl, ?_⟩ hS ?_
              rotate_left
              · intro wq hSw; go_simp; try rfl
              simp only [Act.put, List.setIfInBounds_toArray, List.set_cons_zero, List.set_cons_succ]
              refine take_at 28 (some 95) (v := ?_) rfl rfl (by kernel_rfl) (by kernel_rfl) (by kernel_rfl) (fun _ _ _ h => h) ⟨by rfl, ?_⟩ hS ?_
              rotate_left
              · intro wq hSw; obtain ⟨s0, s1, s2, s3, s4, s5, s6, s7⟩ := hSw; go_simp; try rfl
              simp only [Act.put, List.setIfInBounds_toArray, List.set_cons_zero, List.set_cons_succ]
              refine take_at 29 (some 96) (v := ?_) rfl rfl (by kernel_rfl) (by kernel_rfl) (by kernel_rfl) (fun _ _ _ h => h) ⟨by rfl, ?_⟩ hS ?_
              rotate_left
              · intro wq hSw; go_simp; try rfl
              simp only [Act.put, List.setIfInBounds_toArray, List.set_cons_zero, List.set_cons_succ]
              refine take_at 30 (some 97) (v := ?_) rfl rfl (by kernel_rfl) (by kernel_rfl) (by kernel_rfl) (fun _ _ _ h => h) ⟨by rfl, ?_⟩ hS ?_
              rotate_left
              · intro wq hSw; go_simp; try rfl
              simp only [Act.put, List.setIfInBounds_toArray, List.set_cons_zero, List.set_cons_succ]
              refine take_at 31 (some 98) (v := ?_) rfl rfl (by kernel_rfl) (by kernel_rfl) (by kernel_rfl) (fun _ _ _ h => h) ⟨by rfl, ?_⟩ hS ?_
              rotate_left
              · intro wq hSw; go_simp; try rfl
              simp only [Act.put, List.setIfInBounds_toArray, List.set_cons_zero, List.set_cons_succ]
              refine take_at 32 (some 99) (v := ?_) rfl rfl (by kernel_rfl) (by kernel_rfl) (by kernel_rfl) (fun _ _ _ h => h) ⟨by rfl, ?_⟩ hS ?_
              rotate_left
              · intro wq hSw; obtain ⟨s0, s1, s2, s3, s4, s5, s6, s7⟩ := hSw; go_simp; try rfl
              simp only [Act.put, List.setIfInBounds_toArray, List.set_cons_zero, List.set_cons_succ]
              refine take_at 33 (some 100) (v := .bool true) rfl rfl (by kernel_rfl) (by kernel_rfl) (by kernel_rfl) (fun _ _ _ h => h) ⟨by rfl, ?_⟩ hS ?_
              · intro wq hSw; obtain ⟨s0, s1, s2, s3, s4, s5, s6, s7⟩ := hSw; by_cases q1 : od.1 = ps.1 <;> by_cases q2 : od.2 = ps.2 <;> first | (exact absurd (Prod.ext q1 q2) H2.out) | (go_simp; done) | (go_simp; rfl)
              simp only [Act.put, List.setIfInBounds_toArray, List.set_cons_zero, List.set_cons_succ]
              refine take_at 34 (some 101) (v := ?_) rfl rfl (by kernel_rfl) (by kernel_rfl) (by kernel_rfl) (fun _ _ _ h => h) ⟨by rfl, ?_⟩ hS ?_
              rotate_left
              · intro wq hSw; go_simp; try rfl
              simp only [Act.put, List.setIfInBounds_toArray, List.set_cons_zero, List.set_cons_succ]
              refine take_at 35 (some 102) (v := ?_) rfl rfl (by kernel_rfl) (by kernel_rfl) (by kernel_rfl) (fun _ _ _ h => h) ⟨by rfl, ?_⟩ hS ?_
              rotate_left
              · intro wq hSw; go_simp; try rfl
              simp only [Act.put, List.setIfInBounds_toArray, List.set_cons_zero, List.set_cons_succ]
              refine take_at 36 (some 103) (v := ?_) rfl rfl (by kernel_rfl) (by kernel_rfl) (by kernel_rfl) (fun _ _ _ h => h) ⟨by rfl, ?_⟩ hS ?_
              rotate_left
              · intro wq hSw; go_simp; try rfl
              simp only [Act.put, List.setIfInBounds_toArray, List.set_cons_zero, List.set_cons_succ]
              refine take_at 37 (some 104) (v := ?_) rfl rfl (by kernel_rfl) (by kernel_rfl) (by kernel_rfl) (fun _ _ _ h => h) ⟨by rfl, ?_⟩ hS ?_
              rotate_left
              · intro wq hSw; go_simp; try rfl
              simp only [Act.put, List.setIfInBounds_toArray, List.set_cons_zero, List.set_cons_succ]
              refine take_at 38 (some 105) (v := ?_) rfl rfl (by kernel_rfl) (by kernel_rfl) (by kernel_rfl) (fun _ _ _ h => h) ⟨by rfl, ?_⟩ hS ?_
              rotate_left
              · intro wq hSw; go_simp; try rfl
              simp only [Act.put, List.setIfInBounds_toArray, List.set_cons_zero, List.set_cons_succ]
              refine take_at 39 (some 106) (v := ?_) rfl rfl (by kernel_rfl) (by kernel_rfl) (by kernel_rfl) (fun _ _ _ h => h) ⟨by rfl, ?_⟩ hS ?_
              rotate_left
              · intro wq hSw; go_simp; try rfl
              simp only [Act.put, List.setIfInBounds_toArray, List.set_cons_zero, List.set_cons_succ]
              refine take_at 40 (some 107) (v := ?_) rfl rfl (by kernel_rfl) (by kernel_rfl) (by kernel_rfl) (fun _ _ _ h => h) ⟨by rfl, ?_⟩ hS ?_
              rotate_left
              · intro wq hSw; obtain ⟨s0, s1, s2, s3, s4, s5, s6, s7⟩ := hSw; go_simp; try rfl
              simp only [Act.put, List.setIfInBounds_toArray, List.set_cons_zero, List.set_cons_succ]
              refine take_at 41 (some 108) (v := ?_) rfl rfl (by kernel_rfl) (by kernel_rfl) (by kernel_rfl) (fun _ _ _ h => h) ⟨by rfl, ?_⟩ hS ?_
              rotate_left
              · intro wq hSw; go_simp; try rfl
              simp only [Act.put, List.setIfInBounds_toArray, List.set_cons_zero, List.set_cons_succ]
              refine take_at 42 (some 109) (v := ?_) rfl rfl (by kernel_rfl) (by kernel_rfl) (by kernel_rfl) (fun _ _ _ h => h) ⟨by rfl, ?_⟩ hS ?_
              rotate_left
              · intro wq hSw; go_simp; try rfl
              simp only [Act.put, List.setIfInBounds_toArray, List.set_cons_zero, List.set_cons_succ]
              refine take_at 43 (some 110) (v := ?_) rfl rfl (by kernel_rfl) (by kernel_rfl) (by kernel_rfl) (fun _ _ _ h => h) ⟨by rfl, ?_⟩ hS ?_
              rotate_left
              · intro wq hSw; go_simp; try rfl
              simp only [Act.put, List.setIfInBounds_toArray, List.set_cons_zero, List.set_cons_succ]
              refine take_at 44 (some 111) (v := ?_) rfl rfl (by kernel_rfl) (by kernel_rfl) (by kernel_rfl) (fun _ _ _ h => h) ⟨by rfl, ?_⟩ hS ?_
              rotate_left
              · intro wq hSw; go_simp; try rfl
              simp only [Act.put, List.setIfInBounds_toArray, List.set_cons_zero, List.set_cons_succ]
              refine take_at 45 (some 112) (v := ?_) rfl rfl (by kernel_rfl) (by kernel_rfl) (by kernel_rfl) (fun _ _ _ h => h) ⟨by rfl, ?_⟩ hS ?_
              rotate_left
              · intro wq hSw; obtain ⟨s0, s1, s2, s3, s4, s5, s6, s7⟩ := hSw; go_simp; try rfl
              simp only [Act.put, List.setIfInBounds_toArray, List.set_cons_zero, List.set_cons_succ]
              refine take_at 46 (some 113) (v := ?_) rfl rfl (by kernel_rfl) (by kernel_rfl) (by kernel_rfl) (fun _ _ _ h => h) ⟨by rfl, ?_⟩ hS ?_
              rotate_left
              · intro wq hSw; go_simp; try rfl
              simp only [Act.put, List.setIfInBounds_toArray, List.set_cons_zero, List.set_cons_succ]
              refine take_at 47 (some 114) (v := ?_) rfl rfl (by kernel_rfl) (by kernel_rfl) (by kernel_rfl) (fun _ _ _ h => h) ⟨by rfl, ?_⟩ hS ?_
              rotate_left
              · intro wq hSw; go_simp; try rfl
              simp only [Act.put, List.setIfInBounds_toArray, List.set_cons_zero, List.set_cons_succ]
              refine take_at 48 (some 115) (v := ?_) rfl rfl (by kernel_rfl) (by kernel_rfl) (by kernel_rfl) (fun _ _ _ h => h) ⟨by rfl, ?_⟩ hS ?_
              rotate_left
              · intro wq hSw; go_simp; try rfl
              simp only [Act.put, List.setIfInBounds_toArray, List.set_cons_zero, List.set_cons_succ]
              refine take_at 49 (some 116) (v := ?_) rfl rfl (by kernel_rfl) (by kernel_rfl) (by kernel_rfl) (fun _ _ _ h => h) ⟨by rfl, ?_⟩ hS ?_
              rotate_left
              · intro wq hSw; obtain ⟨s0, s1, s2, s3, s4, s5, s6, s7⟩ := hSw; go_simp; try rfl
              simp only [Act.put, List.setIfInBounds_toArray, List.set_cons_zero, List.set_cons_succ]
              refine take_at 50 (some 117) (v := ?_) rfl rfl (by kernel_rfl) (by kernel_rfl) (by kernel_rfl) (fun _ _ _ h => h) ⟨by rfl, ?_⟩ hS ?_
              rotate_left
              · intro wq hSw; obtain ⟨s0, s1, s2, s3, s4, s5, s6, s7⟩ := hSw; go_simp; try rfl
              simp only [Act.put, List.setIfInBounds_toArray, List.set_cons_zero, List.set_cons_succ]
              refine wpAnyH_ready (rs := [51]) (by kernel_rfl) (by simp) ?_
              refine AllReadyH.cons rfl (fun K hK => ?_) AllReadyH.nil
              go_simp
              go_wp2_with fail
              refine (KB _ PQ_0.out).mono ?_
              rintro e x_2 ⟨rfl, hpq, kp⟩
              have hS2 := keep8 (od := od) (p := p) (pw := pw) (ps := ps) kp ME.out hS LT_0
              have LT_2 := ltk LT_0 kp.size
              have PQ_2 := hide hpq
              have TK_2 := hide (TK_0.out.keep kp (fun x hx => .inr (UN.out.off (by have := NB.out; omega))))
              have OD_2 := hide (OD_0.out.keep kp (by have := NB.out; have := OB.out; omega))
              have HB_2 := hide (HB_0.out.trans (kp.below HB_0.out.size (fun z hz q => by have := NB.out; have := OB.out; omega)))
              clear hpq kp PQ_0 TK_0 OD_0 HB_0 LT_0
              go_wp2_with fail
              refine hK.out _ _ hS2 (fun hS => ?_)
              clear hK K
              (try simp only [Act.put, List.setIfInBounds_toArray, List.set_cons_zero, List.set_cons_succ])
              refine wpAnyH_ready (rs := [52]) (by kernel_rfl) (by simp) ?_
              refine AllReadyH.cons rfl (fun K hK => ?_) AllReadyH.nil
              go_simp
              go_wp2_with fail
              refine (num_eq _ _).mono ?_
              rintro e wz ⟨rfl, rfl⟩
              go_wp2_with fail
              refine hK.out _ _ hS (fun hS => ?_)
              clear hK K
              (try simp only [Act.put, List.setIfInBounds_toArray, List.set_cons_zero, List.set_cons_succ])
              refine take_at 53 (some 120) (v := ?_) rfl rfl (by kernel_rfl) (by kernel_rfl) (by kernel_rfl) (fun _ _ _ h => h) ⟨by rfl, ?_⟩ hS ?_
              rotate_left
              · intro wq hSw; go_simp; try rfl
              simp only [Act.put, List.setIfInBounds_toArray, List.set_cons_zero, List.set_cons_succ]
              refine take_at 54 (some 121) (v := ?_) rfl rfl (by kernel_rfl) (by kernel_rfl) (by kernel_rfl) (fun _ _ _ h => h) ⟨by rfl, ?_⟩ hS ?_
              rotate_left
              · intro wq hSw; go_simp; try rfl
              simp only [Act.put, List.setIfInBounds_toArray, List.set_cons_zero, List.set_cons_succ]
              refine take_at 55 (some 122) (v := ?_) rfl rfl (by kernel_rfl) (by kernel_rfl) (by kernel_rfl) (fun _ _ _ h => h) ⟨by rfl, ?_⟩ hS ?_
              rotate_left
              · intro wq hSw; go_simp; try rfl
              simp only [Act.put, List.setIfInBounds_toArray, List.set_cons_zero, List.set_cons_succ]
              refine wpAnyH_done (by kernel_rfl) ?_ _
              go_wp2_with fail
              go_meet
              exact ⟨rfl, TK_2.out, PQ_2.out, OD_2.out, HB_2.out⟩
        · have H1 := hide hq1
          rw [(TA hq1).1, (TA hq1).2] at KA
          clear hq1 TA
          by_cases hq2 : od = ps
          · have H2 := hide hq2
            clear hq2 TB KB
            as_aux_lemma =>
              refine take_at 0 (some 67) (v := ?_) rfl rfl (by kernel_rfl) (by kernel_rfl) (by kernel_rfl) (fun _ _ _ h => h) ⟨by rfl, ?_⟩ hS ?_
              rotate_left
              · intro wq hSw; obtain ⟨s0, s1, s2, s3, s4, s5, s6, s7⟩ := hSw; go_simp; try rfl
              simp only [Act.put, List.setIfInBounds_toArray, List.set_cons_zero, List.set_cons_succ]
              refine take_at 1 (some 68) (v := ?_) rfl rfl (by kernel_rfl) (by kernel_rfl) (by kernel_rfl) (fun _ _ _ h => h) ⟨by rfl, ?_⟩ hS ?_
              rotate_left
              · intro wq hSw; go_simp; try rfl
              simp only [Act.put, List.setIfInBounds_toArray, List.set_cons_zero, List.set_cons_succ]
              refine take_at 2 (some 69) (v := ?_) rfl rfl (by kernel_rfl) (by kernel_rfl) (by kernel_rfl) (fun _ _ _ h => h) ⟨by rfl, ?_⟩ hS ?_
              rotate_left
              · intro wq hSw; go_simp; try rfl
              simp only [Act.put, List.setIfInBounds_toArray, List.set_cons_zero, List.set_cons_succ]
              refine take_at 3 (some 70) (v := ?_) rfl rfl (by kernel_rfl) (by kernel_rfl) (by kernel_rfl) (fun _ _ _ h => h) ⟨by rfl, ?_⟩ hS ?_
              rotate_left
              · intro wq hSw; go_simp; try rfl
              simp only [Act.put, List.setIfInBounds_toArray, List.set_cons_zero, List.set_cons_succ]
              refine take_at 4 (some 71) (v := ?_) rfl rfl (by kernel_rfl) (by kernel_rfl) (by kernel_rfl) (fun _ _ _ h => h) ⟨by rfl, ?_⟩ hS ?_
              rotate_left
              · intro wq hSw; obtain ⟨s0, s1, s2, s3, s4, s5, s6, s7⟩ := hSw; go_simp; try rfl
              simp only [Act.put, List.setIfInBounds_toArray, List.set_cons_zero, List.set_cons_succ]
              refine take_at 5 (some 72) (v := .bool true) rfl rfl (by kernel_rfl) (by kernel_rfl) (by kernel_rfl) (fun _ _ _ h => h) ⟨by rfl, ?_⟩ hS ?_
              · intro wq hSw; obtain ⟨s0, s1, s2, s3, s4, s5, s6, s7⟩ := hSw; by_cases q1 : od.1 = pw.1 <;> by_cases q2 : od.2 = pw.2 <;> first | (exact absurd (Prod.ext q1 q2) H1.out) | (go_simp; done) | (go_simp; rfl)
              simp only [Act.put, List.setIfInBounds_toArray, List.set_cons_zero, List.set_cons_succ]
              refine take_at 6 (some 73) (v := ?_) rfl rfl (by kernel_rfl) (by kernel_rfl) (by kernel_rfl) (fun _ _ _ h => h) ⟨by rfl, ?_⟩ hS ?_
              rotate_left
              · intro wq hSw; go_simp; try rfl
              simp only [Act.put, List.setIfInBounds_toArray, List.set_cons_zero, List.set_cons_succ]
              refine take_at 7 (some 74) (v := ?_) rfl rfl (by kernel_rfl) (by kernel_rfl) (by kernel_rfl) (fun _ _ _ h => h) ⟨by rfl, ?_⟩ hS ?_
              rotate_left
              · intro wq hSw; go_simp; try rfl
              simp only [Act.put, List.setIfInBounds_toArray, List.set_cons_zero, List.set_cons_succ]
              refine take_at 8 (some 75) (v := ?_) rfl rfl (by kernel_rfl) (by kernel_rfl) (by kernel_rfl) (fun _ _ _ h => h) ⟨by rfl, ?_⟩ hS ?_
              rotate_left
              · intro wq hSw; go_simp; try rfl
              simp only [Act.put, List.setIfInBounds_toArray, List.set_cons_zero, List.set_cons_succ]
              refine take_at 9 (some 76) (v := ?_) rfl rfl (by kernel_rfl) (by kernel_rfl) (by kernel_rfl) (fun _ _ _ h => h) ⟨by rfl, ?_⟩ hS ?_
              rotate_left
              · intro wq hSw; go_simp; try rfl
              simp only [Act.put, List.setIfInBounds_toArray, List.set_cons_zero, List.set_cons_succ]
              refine take_at 10 (some 77) (v := ?_) rfl rfl (by kernel_rfl) (by kernel_rfl) (by kernel_rfl) (fun _ _ _ h => h) ⟨by rfl, ?_⟩ hS ?_
              rotate_left
              · intro wq hSw; go_simp; try rfl
              simp only [Act.put, List.setIfInBounds_toArray, List.set_cons_zero, List.set_cons_succ]
              refine take_at 11 (some 78) (v := ?_) rfl rfl (by kernel_rfl) (by kernel_rfl) (by kernel_rfl) (fun _ _ _ h => h) ⟨by rfl, ?_⟩ hS ?_
              rotate_left
              · intro wq hSw; go_simp; try rfl
              simp only [Act.put, List.setIfInBounds_toArray, List.set_cons_zero, List.set_cons_succ]
              refine take_at 12 (some 79) (v := ?_) rfl rfl (by kernel_rfl) (by kernel_rfl) (by kernel_rfl) (fun _ _ _ h => h) ⟨by rfl, ?_⟩ hS ?_
              rotate_left
              · intro wq hSw; obtain ⟨s0, s1, s2, s3, s4, s5, s6, s7⟩ := hSw; go_simp; try rfl
              simp only [Act.put, List.setIfInBounds_toArray, List.set_cons_zero, List.set_cons_succ]
              refine take_at 13 (some 80) (v := ?_) rfl rfl (by kernel_rfl) (by kernel_rfl) (by kernel_rfl) (fun _ _ _ h => h) ⟨by rfl, ?_⟩ hS ?_
              rotate_left
              · intro wq hSw; go_simp; try rfl
              simp only [Act.put, List.setIfInBounds_toArray, List.set_cons_zero, List.set_cons_succ]
              refine take_at 14 (some 81) (v := ?_) rfl rfl (by kernel_rfl) (by kernel_rfl) (by kernel_rfl) (fun _ _ _ h => h) ⟨by rfl, ?_⟩ hS ?_
              rotate_left
              · intro wq hSw; go_simp; try rfl
              simp only [Act.put, List.setIfInBounds_toArray, List.set_cons_zero, List.set_cons_succ]
              refine take_at 15 (some 82) (v := ?_) rfl rfl (by kernel_rfl) (by kernel_rfl) (by kernel_rfl) (fun _ _ _ h => h) ⟨by rfl, ?_⟩ hS ?_
              rotate_left
              · intro wq hSw; go_simp; try rfl
              simp only [Act.put, List.setIfInBounds_toArray, List.set_cons_zero, List.set_cons_succ]
              refine take_at 16 (some 83) (v := ?_) rfl rfl (by kernel_rfl) (by kernel_rfl) (by kernel_rfl) (fun _ _ _ h => h) ⟨by rfl, ?_⟩ hS ?_
              rotate_left
              · intro wq hSw; go_simp; try rfl
              simp only [Act.put, List.setIfInBounds_toArray, List.set_cons_zero, List.set_cons_succ]
              refine take_at 17 (some 84) (v := ?_) rfl rfl (by kernel_rfl) (by kernel_rfl) (by kernel_rfl) (fun _ _ _ h => h) ⟨by rfl, ?_⟩ hS ?_
              rotate_left
              · intro wq hSw; obtain ⟨s0, s1, s2, s3, s4, s5, s6, s7⟩ := hSw; go_simp; try rfl
              simp only [Act.put, List.setIfInBounds_toArray, List.set_cons_zero, List.set_cons_succ]
              refine take_at 18 (some 85) (v := ?_) rfl rfl (by kernel_rfl) (by kernel_rfl) (by kernel_rfl) (fun _ _ _ h => h) ⟨by rfl, ?_⟩ hS ?_
              rotate_left
              · intro wq hSw; obtain ⟨s0, s1, s2, s3, s4, s5, s6, s7⟩ := hSw; go_simp; try rfl
              simp only [Act.put, List.setIfInBounds_toArray, List.set_cons_zero, List.set_cons_succ]
              refine take_at 19 (some 86) (v := ?_) rfl rfl (by kernel_rfl) (by kernel_rfl) (by kernel_rfl) (fun _ _ _ h => h) ⟨by rfl, ?_⟩ hS ?_
              rotate_left
              · intro wq hSw; go_simp; try rfl
              simp only [Act.put, List.setIfInBounds_toArray, List.set_cons_zero, List.set_cons_succ]
              refine take_at 20 (some 87) (v := ?_) rfl rfl (by kernel_rfl) (by kernel_rfl) (by kernel_rfl) (fun _ _ _ h => h) ⟨by rfl, ?_⟩ hS ?_
              rotate_left
              · intro wq hSw; go_simp; try rfl
              simp only [Act.put, List.setIfInBounds_toArray, List.set_cons_zero, List.set_cons_succ]
              refine take_at 21 (some 88) (v := ?_) rfl rfl (by kernel_rfl) (by kernel_rfl) (by kernel_rfl) (fun _ _ _ h => h) ⟨by rfl, ?_⟩ hS ?_
              rotate_left
              · intro wq hSw; go_simp; try rfl
              simp only [Act.put, List.setIfInBounds_toArray, List.set_cons_zero, List.set_cons_succ]
              refine take_at 22 (some 89) (v := ?_) rfl rfl (by kernel_rfl) (by kernel_rfl) (by kernel_rfl) (fun _ _ _ h => h) ⟨by rfl, ?_⟩ hS ?_
              rotate_left
              · intro wq hSw; obtain ⟨s0, s1, s2, s3, s4, s5, s6, s7⟩ := hSw; go_simp; try rfl
              simp only [Act.put, List.setIfInBounds_toArray, List.set_cons_zero, List.set_cons_succ]
              refine wpAnyH_ready (rs := [23]) (by kernel_rfl) (by simp) ?_
              refine AllReadyH.cons rfl (fun K hK => ?_) AllReadyH.nil
              go_simp
              go_wp2_with fail
              refine (KA _ PQ_0.out).mono ?_
              rintro e x_1 ⟨rfl, hpq, kp⟩
              have hS2 := keep8 (od := od) (p := p) (pw := pw) (ps := ps) kp ME.out hS LT_0
              have LT_1 := ltk LT_0 kp.size
              have PQ_1 := hide hpq
              have TK_1 := hide (TK_0.out.keep kp (fun x hx => .inr (UN.out.off (by have := NB.out; omega))))
              have OD_1 := hide (OD_0.out.keep kp (by have := NB.out; have := OB.out; omega))
              have HB_1 := hide (HB_0.out.trans (kp.below HB_0.out.size (fun z hz q => by have := NB.out; have := OB.out; omega)))
              clear hpq kp PQ_0 TK_0 OD_0 HB_0 LT_0
              go_wp2_with fail
              refine hK.out _ _ hS2 (fun hS => ?_)
              clear hK K
              (try simp only [Act.put, List.setIfInBounds_toArray, List.set_cons_zero, List.set_cons_succ])
              refine wpAnyH_ready (rs := [24]) (by kernel_rfl) (by simp) ?_
              refine AllReadyH.cons rfl (fun K hK => ?_) AllReadyH.nil
              go_simp
              go_wp2_with fail
              refine (num_eq _ _).mono ?_
              rintro e wz ⟨rfl, rfl⟩
              go_wp2_with fail
              refine hK.out _ _ hS (fun hS => ?_)
              clear hK K
              (try simp only [Act.put, List.setIfInBounds_toArray, List.set_cons_zero, List.set_cons_succ])
              refine take_at 25 (some 92) (v := ?_) rfl rfl (by kernel_rfl) (by kernel_rfl) (by kernel_rfl) (fun _ _ _ h => h) ⟨by rfl, ?_⟩ hS ?_
              rotate_left
              · intro wq hSw; go_simp; try rfl
              simp only [Act.put, List.setIfInBounds_toArray, List.set_cons_zero, List.set_cons_succ]
              refine take_at 26 (some 93) (v := ?_) rfl rfl (by kernel_rfl) (by kernel_rfl) (by kernel_rfl) (fun _ _ _ h => h) ⟨by rfl, ?_⟩ hS ?_
              rotate_left
              · intro wq hSw; go_simp; try rfl
              simp only [Act.put, List.setIfInBounds_toArray, List.set_cons_zero, List.set_cons_succ]
              refine take_at 27 (some 94) (v := ?_) rfl rfl (by kernel_rfl) (by kernel_rfl) (by kernel_rfl) (fun _ _ _ h => h) ⟨by rfl, ?_⟩ hS ?_
              rotate_left
              · intro wq hSw; go_simp; try rfl
              simp only [Act.put, List.setIfInBounds_toArray, List.set_cons_zero, List.set_cons_succ]
              refine take_at 28 (some 95) (v := ?_) rfl rfl (by kernel_rfl) (by kernel_rfl) (by kernel_rfl) (fun _ _ _ h => h) ⟨by rfl, ?_⟩ hS ?_
              rotate_left
              · intro wq hSw; obtain ⟨s0, s1, s2, s3, s4, s5, s6, s7⟩ := hSw; go_simp; try rfl
              simp only [Act.put, List.setIfInBounds_toArray, List.set_cons_zero, List.set_cons_succ]
              refine take_at 29 (some 96) (v := ?_) rfl rfl (by kernel_rfl) (by kernel_rfl) (by kernel_rfl) (fun _ _ _ h => h) ⟨by rfl, ?_⟩ hS ?_
              rotate_left
              · intro wq hSw; go_simp; try rfl
              simp only [Act.put, List.setIfInBounds_toArray, List.set_cons_zero, List.set_cons_succ]
              refine take_at 30 (some 97) (v := ?_) rfl rfl (by kernel_rfl) (by kernel_rfl) (by kernel_rfl) (fun _ _ _ h => h) ⟨by rfl, ?_⟩ hS ?_
              rotate_left
              · intro wq hSw; go_simp; try rfl
              simp only [Act.put, List.setIfInBounds_toArray, List.set_cons_zero, List.set_cons_succ]
              refine take_at 31 (some 98) (v := ?_) rfl rfl (by kernel_rfl) (by kernel_rfl) (by kernel_rfl) (fun _ _ _ h => h) ⟨by rfl, ?_⟩ hS ?_
              rotate_left
              · intro wq hSw; go_simp; try rfl
              simp only [Act.put, List.setIfInBounds_toArray, List.set_cons_zero, List.set_cons_succ]
              refine take_at 32 (some 99) (v := ?_) rfl rfl (by kernel_rfl) (by kernel_rfl) (by kernel_rfl) (fun _ _ _ h => h) ⟨by rfl, ?_⟩ hS ?_
              rotate_left
              · intro wq hSw; obtain ⟨s0, s1, s2, s3, s4, s5, s6, s7⟩ := hSw; go_simp; try rfl
              simp only [Act.put, List.setIfInBounds_toArray, List.set_cons_zero, List.set_cons_succ]
              refine take_at 33 (some 100) (v := .bool false) rfl rfl (by kernel_rfl) (by kernel_rfl) (by kernel_rfl) (fun _ _ _ h => h) ⟨by rfl, ?_⟩ hS ?_
              · intro wq hSw; obtain ⟨s0, s1, s2, s3, s4, s5, s6, s7⟩ := hSw; have q1 := congrArg Prod.fst H2.out; have q2 := congrArg Prod.snd H2.out; go_simp <;> try rfl
              simp only [Act.put, List.setIfInBounds_toArray, List.set_cons_zero, List.set_cons_succ]
              refine take_at 34 (some 101) (v := ?_) rfl rfl (by kernel_rfl) (by kernel_rfl) (by kernel_rfl) (fun _ _ _ h => h) ⟨by rfl, ?_⟩ hS ?_
              rotate_left
              · intro wq hSw; go_simp; try rfl
              simp only [Act.put, List.setIfInBounds_toArray, List.set_cons_zero, List.set_cons_succ]
              refine pass_at 35 (some 102) rfl rfl (by kernel_rfl) (by kernel_rfl) (by kernel_rfl) (fun _ _ _ h => h) (by rfl) hS ?_
              simp only [Act.put, List.setIfInBounds_toArray, List.set_cons_zero, List.set_cons_succ]
              refine pass_at 36 (some 103) rfl rfl (by kernel_rfl) (by kernel_rfl) (by kernel_rfl) (fun _ _ _ h => h) (by rfl) hS ?_
              simp only [Act.put, List.setIfInBounds_toArray, List.set_cons_zero, List.set_cons_succ]
              refine pass_at 37 (some 104) rfl rfl (by kernel_rfl) (by kernel_rfl) (by kernel_rfl) (fun _ _ _ h => h) (by rfl) hS ?_
              simp only [Act.put, List.setIfInBounds_toArray, List.set_cons_zero, List.set_cons_succ]
              refine pass_at 38 (some 105) rfl rfl (by kernel_rfl) (by kernel_rfl) (by kernel_rfl) (fun _ _ _ h => h) (by rfl) hS ?_
              simp only [Act.put, List.setIfInBounds_toArray, List.set_cons_zero, List.set_cons_succ]
              refine pass_at 39 (some 106) rfl rfl (by kernel_rfl) (by kernel_rfl) (by kernel_rfl) (fun _ _ _ h => h) (by rfl) hS ?_
              simp only [Act.put, List.setIfInBounds_toArray, List.set_cons_zero, List.set_cons_succ]
              refine pass_at 40 (some 107) rfl rfl (by kernel_rfl) (by kernel_rfl) (by kernel_rfl) (fun _ _ _ h => h) (by rfl) hS ?_
              simp only [Act.put, List.setIfInBounds_toArray, List.set_cons_zero, List.set_cons_succ]
              refine pass_at 41 (some 108) rfl rfl (by kernel_rfl) (by kernel_rfl) (by kernel_rfl) (fun _ _ _ h => h) (by rfl) hS ?_
              simp only [Act.put, List.setIfInBounds_toArray, List.set_cons_zero, List.set_cons_succ]
              refine pass_at 42 (some 109) rfl rfl (by kernel_rfl) (by kernel_rfl) (by kernel_rfl) (fun _ _ _ h => h) (by rfl) hS ?_
              simp only [Act.put, List.setIfInBounds_toArray, List.set_cons_zero, List.set_cons_succ]
              refine pass_at 43 (some 110) rfl rfl (by kernel_rfl) (by kernel_rfl) (by kernel_rfl) (fun _ _ _ h => h) (by rfl) hS ?_
              simp only [Act.put, List.setIfInBounds_toArray, List.set_cons_zero, List.set_cons_succ]
              refine pass_at 44 (some 111) rfl rfl (by kernel_rfl) (by kernel_rfl) (by kernel_rfl) (fun _ _ _ h => h) (by rfl) hS ?_
              simp only [Act.put, List.setIfInBounds_toArray, List.set_cons_zero, List.set_cons_succ]
              refine pass_at 45 (some 112) rfl rfl (by kernel_rfl) (by kernel_rfl) (by kernel_rfl) (fun _ _ _ h => h) (by rfl) hS ?_
              simp only [Act.put, List.setIfInBounds_toArray, List.set_cons_zero, List.set_cons_succ]
              refine pass_at 46 (some 113) rfl rfl (by kernel_rfl) (by kernel_rfl) (by kernel_rfl) (fun _ _ _ h => h) (by rfl) hS ?_
              simp only [Act.put, List.setIfInBounds_toArray, List.set_cons_zero, List.set_cons_succ]
              refine pass_at 47 (some 114) rfl rfl (by kernel_rfl) (by kernel_rfl) (by kernel_rfl) (fun _ _ _ h => h) (by rfl) hS ?_
              simp only [Act.put, List.setIfInBounds_toArray, List.set_cons_zero, List.set_cons_succ]
              refine pass_at 48 (some 115) rfl rfl (by kernel_rfl) (by kernel_rfl) (by kernel_rfl) (fun _ _ _ h => h) (by rfl) hS ?_
              simp only [Act.put, List.setIfInBounds_toArray, List.set_cons_zero, List.set_cons_succ]
              refine pass_at 49 (some 116) rfl rfl (by kernel_rfl) (by kernel_rfl) (by kernel_rfl) (fun _ _ _ h => h) (by rfl) hS ?_
              simp only [Act.put, List.setIfInBounds_toArray, List.set_cons_zero, List.set_cons_succ]
              refine pass_at 50 (some 117) rfl rfl (by kernel_rfl) (by kernel_rfl) (by kernel_rfl) (fun _ _ _ h => h) (by rfl) hS ?_
              simp only [Act.put, List.setIfInBounds_toArray, List.set_cons_zero, List.set_cons_succ]
              refine pass_at 51 (some 118) rfl rfl (by kernel_rfl) (by kernel_rfl) (by kernel_rfl) (fun _ _ _ h => h) (by rfl) hS ?_
              simp only [Act.put, List.setIfInBounds_toArray, List.set_cons_zero, List.set_cons_succ]
              refine pass_at 52 (some 119) rfl rfl (by kernel_rfl) (by kernel_rfl) (by kernel_rfl) (fun _ _ _ h => h) (by rfl) hS ?_
              simp only [Act.put, List.setIfInBounds_toArray, List.set_cons_zero, List.set_cons_succ]
              refine pass_at 53 (some 120) rfl rfl (by kernel_rfl) (by kernel_rfl) (by kernel_rfl) (fun _ _ _ h => h) (by rfl) hS ?_
              simp only [Act.put, List.setIfInBounds_toArray, List.set_cons_zero, List.set_cons_succ]
              refine take_at 54 (some 121) (v := ?_) rfl rfl (by kernel_rfl) (by kernel_rfl) (by kernel_rfl) (fun _ _ _ h => h) ⟨by rfl, ?_⟩ hS ?_
              rotate_left
              · intro wq hSw; go_simp; try rfl
              simp only [Act.put, List.setIfInBounds_toArray, List.set_cons_zero, List.set_cons_succ]
              refine take_at 55 (some 122) (v := ?_) rfl rfl (by kernel_rfl) (by kernel_rfl) (by kernel_rfl) (fun _ _ _ h => h) ⟨by rfl, ?_⟩ hS ?_
              rotate_left
              · intro wq hSw; go_simp; try rfl
              simp only [Act.put, List.setIfInBounds_toArray, List.set_cons_zero, List.set_cons_succ]
              refine wpAnyH_done (by kernel_rfl) ?_ _
              go_wp2_with fail
              go_meet
              exact ⟨rfl, TK_1.out, PQ_1.out, OD_1.out, HB_1.out⟩
          · have H2 := hide hq2
            rw [(TB hq2).1, (TB hq2).2] at KB
            clear hq2 TB
            as_aux_lemma =>
              refine take_at 0 (some 67) (v := ?_) rfl rfl (by kernel_rfl) (by kernel_rfl) (by kernel_rfl) (fun _ _ _ h => h) ⟨by rfl, ?_⟩ hS ?_
              rotate_left
              · intro wq hSw; obtain ⟨s0, s1, s2, s3, s4, s5, s6, s7⟩ := hSw; go_simp; try rfl
              simp only [Act.put, List.setIfInBounds_toArray, List.set_cons_zero, List.set_cons_succ]
              refine take_at 1 (some 68) (v := ?_) rfl rfl (by kernel_rfl) (by kernel_rfl) (by kernel_rfl) (fun _ _ _ h => h) ⟨by rfl, ?_⟩ hS ?_
              rotate_left
              · intro wq hSw; go_simp; try rfl
              simp only [Act.put, List.setIfInBounds_toArray, List.set_cons_zero, List.set_cons_succ]
              refine take_at 2 (some 69) (v := ?_) rfl rfl (by kernel_rfl) (by kernel_rfl) (by kernel_rfl) (fun _ _ _ h => h) ⟨by rfl, ?_⟩ hS ?_
              rotate_left
              · intro wq hSw; go_simp; try rfl
              simp only [Act.put, List.setIfInBounds_toArray, List.set_cons_zero, List.set_cons_succ]
              refine take_at 3 (some 70) (v := ?_) rfl rfl (by kernel_rfl) (by kernel_rfl) (by kernel_rfl) (fun _ _ _ h => h) ⟨by rfl, ?_⟩ hS ?_
              rotate_left
              · intro wq hSw; go_simp; try rfl
              simp only [Act.put, List.setIfInBounds_toArray, List.set_cons_zero, List.set_cons_succ]
              refine take_at 4 (some 71) (v := ?_) rfl rfl (by kernel_rfl) (by kernel_rfl) (by kernel_rfl) (fun _ _ _ h => h) ⟨by rfl, ?_⟩ hS ?_
              rotate_left
              · intro wq hSw; obtain ⟨s0, s1, s2, s3, s4, s5, s6, s7⟩ := hSw; go_simp; try rfl
              simp only [Act.put, List.setIfInBounds_toArray, List.set_cons_zero, List.set_cons_succ]
              refine take_at 5 (some 72) (v := .bool true) rfl rfl (by kernel_rfl) (by kernel_rfl) (by kernel_rfl) (fun _ _ _ h => h) ⟨by rfl, ?_⟩ hS ?_
              · intro wq hSw; obtain ⟨s0, s1, s2, s3, s4, s5, s6, s7⟩ := hSw; by_cases q1 : od.1 = pw.1 <;> by_cases q2 : od.2 = pw.2 <;> first | (exact absurd (Prod.ext q1 q2) H1.out) | (go_simp; done) | (go_simp; rfl)
              simp only [Act.put, List.setIfInBounds_toArray, List.set_cons_zero, List.set_cons_succ]
              refine take_at 6 (some 73) (v := ?_) rfl rfl (by kernel_rfl) (by kernel_rfl) (by kernel_rfl) (fun _ _ _ h => h) ⟨by rfl, ?_⟩ hS ?_
              rotate_left
              · intro wq hSw; go_simp; try rfl
              simp only [Act.put, List.setIfInBounds_toArray, List.set_cons_zero, List.set_cons_succ]
              refine take_at 7 (some 74) (v := ?_) rfl rfl (by kernel_rfl) (by kernel_rfl) (by kernel_rfl) (fun _ _ _ h => h) ⟨by rfl, ?_⟩ hS ?_
              rotate_left
              · intro wq hSw; go_simp; try rfl
              simp only [Act.put, List.setIfInBounds_toArray, List.set_cons_zero, List.set_cons_succ]
              refine take_at 8 (some 75) (v := ?_) rfl rfl (by kernel_rfl) (by kernel_rfl) (by kernel_rfl) (fun _ _ _ h => h) ⟨by rfl, ?_⟩ hS ?_
              rotate_left
              · intro wq hSw; go_simp; try rfl
              simp only [Act.put, List.setIfInBounds_toArray, List.set_cons_zero, List.set_cons_succ]
              refine take_at 9 (some 76) (v := ?_) rfl rfl (by kernel_rfl) (by kernel_rfl) (by kernel_rfl) (fun _ _ _ h => h) ⟨by rfl, ?_⟩ hS ?_
              rotate_left
              · intro wq hSw; go_simp; try rfl
              simp only [Act.put, List.setIfInBounds_toArray, List.set_cons_zero, List.set_cons_succ]
              refine take_at 10 (some 77) (v := ?_) rfl rfl (by kernel_rfl) (by kernel_rfl) (by kernel_rfl) (fun _ _ _ h => h) ⟨by rfl, ?_⟩ hS ?_
              rotate_left
              · intro wq hSw; go_simp; try rfl
              simp only [Act.put, List.setIfInBounds_toArray, List.set_cons_zero, List.set_cons_succ]
              refine take_at 11 (some 78) (v := ?_) rfl rfl (by kernel_rfl) (by kernel_rfl) (by kernel_rfl) (fun _ _ _ h => h) ⟨by rfl, ?_⟩ hS ?_
              rotate_left
              · intro wq hSw; go_simp; try rfl
              simp only [Act.put, List.setIfInBounds_toArray, List.set_cons_zero, List.set_cons_succ]
              refine take_at 12 (some 79) (v := ?_) rfl rfl (by kernel_rfl) (by kernel_rfl) (by kernel_rfl) (fun _ _ _ h => h) ⟨by rfl, ?_⟩ hS ?_
              rotate_left
              · intro wq hSw; obtain ⟨s0, s1, s2, s3, s4, s5, s6, s7⟩ := hSw; go_simp; try rfl
              simp only [Act.put, List.setIfInBounds_toArray, List.set_cons_zero, List.set_cons_succ]
              refine take_at 13 (some 80) (v := ?_) rfl rfl (by kernel_rfl) (by kernel_rfl) (by kernel_rfl) (fun _ _ _ h => h) ⟨by rfl, ?_⟩ hS ?_
              rotate_left
              · intro wq hSw; go_simp; try rfl
              simp only [Act.put, List.setIfInBounds_toArray, List.set_cons_zero, List.set_cons_succ]
              refine take_at 14 (some 81) (v := ?_) rfl rfl (by kernel_rfl) (by kernel_rfl) (by kernel_rfl) (fun _ _ _ h => h) ⟨by rfl, ?_⟩ hS ?_
              rotate_left
              · intro wq hSw; go_simp; try rfl
              simp only [Act.put, List.setIfInBounds_toArray, List.set_cons_zero, List.set_cons_succ]
              refine take_at 15 (some 82) (v := ?_) rfl rfl (by kernel_rfl) (by kernel_rfl) (by kernel_rfl) (fun _ _ _ h => h) ⟨by rfl, ?_⟩ hS ?_
              rotate_left
              · intro wq hSw; go_simp; try rfl
              simp only [Act.put, List.setIfInBounds_toArray, List.set_cons_zero, List.set_cons_succ]
              refine take_at 16 (some 83) (v := ?_) rfl rfl (by kernel_rfl) (by kernel_rfl) (by kernel_rfl) (fun _ _ _ h => h) ⟨by rfl, ?_⟩ hS ?_
              rotate_left
              · intro wq hSw; go_simp; try rfl
              simp only [Act.put, List.setIfInBounds_toArray, List.set_cons_zero, List.set_cons_succ]
              refine take_at 17 (some 84) (v := ?_) rfl rfl (by kernel_rfl) (by kernel_rfl) (by kernel_rfl) (fun _ _ _ h => h) ⟨by rfl, ?_⟩ hS ?_
              rotate_left
              · intro wq hSw; obtain ⟨s0, s1, s2, s3, s4, s5, s6, s7⟩ := hSw; go_simp; try rfl
              simp only [Act.put, List.setIfInBounds_toArray, List.set_cons_zero, List.set_cons_succ]
              refine take_at 18 (some 85) (v := ?_) rfl rfl (by kernel_rfl) (by kernel_rfl) (by kernel_rfl) (fun _ _ _ h => h) ⟨by rfl, ?_⟩ hS ?_
              rotate_left
              · intro wq hSw; obtain ⟨s0, s1, s2, s3, s4, s5, s6, s7⟩ := hSw; go_simp; try rfl
              simp only [Act.put, List.setIfInBounds_toArray, List.set_cons_zero, List.set_cons_succ]
              refine take_at 19 (some 86) (v := ?_) rfl rfl (by kernel_rfl) (by kernel_rfl) (by kernel_rfl) (fun _ _ _ h => h) ⟨by rfl, ?_⟩ hS ?_
              rotate_left
              · intro wq hSw; go_simp; try rfl
              simp only [Act.put, List.setIfInBounds_toArray, List.set_cons_zero, List.set_cons_succ]
              refine take_at 20 (some 87) (v := ?_) rfl rfl (by kernel_rfl) (by kernel_rfl) (by kernel_rfl) (fun _ _ _ h => h) ⟨by rfl, ?_⟩ hS ?_
              rotate_left
              · intro wq hSw; go_simp; try rfl
              simp only [Act.put, List.setIfInBounds_toArray, List.set_cons_zero, List.set_cons_succ]
              refine take_at 21 (some 88) (v := ?_) rfl rfl (by kernel_rfl) (by kernel_rfl) (by kernel_rfl) (fun _ _ _ h => h) ⟨by rfl, ?_⟩ hS ?_
              rotate_left
              · intro wq hSw; go_simp; try rfl
              simp only [Act.put, List.setIfInBounds_toArray, List.set_cons_zero, List.set_cons_succ]
              refine take_at 22 (some 89) (v := ?_) rfl rfl (by kernel_rfl) (by kernel_rfl) (by kernel_rfl) (fun _ _ _ h => h) ⟨by rfl, ?_⟩ hS ?_
              rotate_left
              · intro wq hSw; obtain ⟨s0, s1, s2, s3, s4, s5, s6, s7⟩ := hSw; go_simp; try rfl
              simp only [Act.put, List.setIfInBounds_toArray, List.set_cons_zero, List.set_cons_succ]
              refine wpAnyH_ready (rs := [23]) (by kernel_rfl) (by simp) ?_
              refine AllReadyH.cons rfl (fun K hK => ?_) AllReadyH.nil
              go_simp
              go_wp2_with fail
              refine (KA _ PQ_0.out).mono ?_
              rintro e x_1 ⟨rfl, hpq, kp⟩
              have hS2 := keep8 (od := od) (p := p) (pw := pw) (ps := ps) kp ME.out hS LT_0
              have LT_1 := ltk LT_0 kp.size
              have PQ_1 := hide hpq
              have TK_1 := hide (TK_0.out.keep kp (fun x hx => .inr (UN.out.off (by have := NB.out; omega))))
              have OD_1 := hide (OD_0.out.keep kp (by have := NB.out; have := OB.out; omega))
              have HB_1 := hide (HB_0.out.trans (kp.below HB_0.out.size (fun z hz q => by have := NB.out; have := OB.out; omega)))
              clear hpq kp PQ_0 TK_0 OD_0 HB_0 LT_0
              go_wp2_with fail
              refine hK.out _ _ hS2 (fun hS => ?_)
              clear hK K
              (try simp only [Act.put, List.setIfInBounds_toArray, List.set_cons_zero, List.set_cons_succ])
              refine wpAnyH_ready (rs := [24]) (by kernel_rfl) (by simp) ?_
              refine AllReadyH.cons rfl (fun K hK => ?_) AllReadyH.nil
              go_simp
              go_wp2_with fail
              refine (num_eq _ _).mono ?_
              rintro e wz ⟨rfl, rfl⟩
              go_wp2_with fail
              refine hK.out _ _ hS (fun hS => ?_)
              clear hK K
              (try simp only [Act.put, List.setIfInBounds_toArray, List.set_cons_zero, List.set_cons_succ])
              refine take_at 25 (some 92) (v := ?_) rfl rfl (by kernel_rfl) (by kernel_rfl) (by kernel_rfl) (fun _ _ _ h => h) ⟨by rfl, ?_⟩ hS ?_
              rotate_left
              · intro wq hSw; go_simp; try rfl
              simp only [Act.put, List.setIfInBounds_toArray, List.set_cons_zero, List.set_cons_succ]
              refine take_at 26 (some 93) (v := ?_) rfl rfl (by kernel_rfl) (by kernel_rfl) (by kernel_rfl) (fun _ _ _ h => h) ⟨by rfl, ?_⟩ hS ?_
              rotate_left
              · intro wq hSw; go_simp; try rfl
              simp only [Act.put, List.setIfInBounds_toArray, List.set_cons_zero, List.set_cons_succ]
              refine take_at 27 (some 94) (v := ?_) rfl rfl (by kernel_rfl) (by kernel_rfl) (by kernel_rfl) (fun _ _ _ h => h) ⟨by rfl, ?_⟩ hS ?_
              rotate_left
              · intro wq hSw; go_simp; try rfl
              simp only [Act.put, List.setIfInBounds_toArray, List.set_cons_zero, List.set_cons_succ]
              refine take_at 28 (some 95) (v := ?_) rfl rfl (by kernel_rfl) (by kernel_rfl) (by kernel_rfl) (fun _ _ _ h => h) ⟨by rfl, ?_⟩ hS ?_
              rotate_left
              · intro wq hSw; obtain ⟨s0, s1, s2, s3, s4, s5, s6, s7⟩ := hSw; go_simp; try rfl
              simp only [Act.put, List.setIfInBounds_toArray, List.set_cons_zero, List.set_cons_succ]
              refine take_at 29 (some 96) (v := ?_) rfl rfl (by kernel_rfl) (by kernel_rfl) (by kernel_rfl) (fun _ _ _ h => h) ⟨by rfl, ?_⟩ hS ?_
              rotate_left
              · intro wq hSw; go_simp; try rfl
              simp only [Act.put, List.setIfInBounds_toArray, List.set_cons_zero, List.set_cons_succ]
              refine take_at 30 (some 97) (v := ?_) rfl rfl (by kernel_rfl) (by kernel_rfl) (by kernel_rfl) (fun _ _ _ h => h) ⟨by rfl, ?_⟩ hS ?_
              rotate_left
              · intro wq hSw; go_simp; try rfl
              simp only [Act.put, List.setIfInBounds_toArray, List.set_cons_zero, List.set_cons_succ]
              refine take_at 31 (some 98) (v := ?_) rfl rfl (by kernel_rfl) (by kernel_rfl) (by kernel_rfl) (fun _ _ _ h => h) ⟨by rfl, ?_⟩ hS ?_
              rotate_left
              · intro wq hSw; go_simp; try rfl
              simp only [Act.put, List.setIfInBounds_toArray, List.set_cons_zero, List.set_cons_succ]
              refine take_at 32 (some 99) (v := ?_) rfl rfl (by kernel_rfl) (by kernel_rfl) (by kernel_rfl) (fun _ _ _ h => h) ⟨by rfl, ?_⟩ hS ?_
              rotate_left
              · intro wq hSw; obtain ⟨s0, s1, s2, s3, s4, s5, s6, s7⟩ := hSw; go_simp; try rfl
              simp only [Act.put, List.setIfInBounds_toArray, List.set_cons_zero, List.set_cons_succ]
              refine take_at 33 (some 100) (v := .bool true) rfl rfl (by kernel_rfl) (by kernel_rfl) (by kernel_rfl) (fun _ _ _ h => h) ⟨by rfl, ?_⟩ hS ?_
              · intro wq hSw; obtain ⟨s0, s1, s2, s3, s4, s5, s6, s7⟩ := hSw; by_cases q1 : od.1 = ps.1 <;> by_cases q2 : od.2 = ps.2 <;> first | (exact absurd (Prod.ext q1 q2) H2.out) | (go_simp; done) | (go_simp; rfl)
              simp only [Act.put, List.setIfInBounds_toArray, List.set_cons_zero, List.set_cons_succ]
              refine take_at 34 (some 101) (v := ?_) rfl rfl (by kernel_rfl) (by kernel_rfl) (by kernel_rfl) (fun _ _ _ h => h) ⟨by rfl, ?_⟩ hS ?_
              rotate_left
              · intro wq hSw; go_simp; try rfl
              simp only [Act.put, List.setIfInBounds_toArray, List.set_cons_zero, List.set_cons_succ]
              refine take_at 35 (some 102) (v := ?_) rfl rfl (by kernel_rfl) (by kernel_rfl) (by kernel_rfl) (fun _ _ _ h => h) ⟨by rfl, ?_⟩ hS ?_
              rotate_left
              · intro wq hSw; go_simp; try rfl
              simp only [Act.put, List.setIfInBounds_toArray, List.set_cons_zero, List.set_cons_succ]
              refine take_at 36 (some 103) (v := ?_) rfl rfl (by kernel_rfl) (by kernel_rfl) (by kernel_rfl) (fun _ _ _ h => h) ⟨by rfl, ?_⟩ hS ?_
              rotate_left
              · intro wq hSw; go_simp; try rfl
              simp only [Act.put, List.setIfInBounds_toArray, List.set_cons_zero, List.set_cons_succ]
              refine take_at 37 (some 104) (v := ?_) rfl rfl (by kernel_rfl) (by kernel_rfl) (by kernel_rfl) (fun _ _ _ h => h) ⟨by rfl, ?_⟩ hS ?_
              rotate_left
              · intro wq hSw; go_simp; try rfl
              simp only [Act.put, List.setIfInBounds_toArray, List.set_cons_zero, List.set_cons_succ]
              refine take_at 38 (some 105) (v := ?_) rfl rfl (by kernel_rfl) (by kernel_rfl) (by kernel_rfl) (fun _ _ _ h => h) ⟨by rfl, ?_⟩ hS ?_
              rotate_left
              · intro wq hSw; go_simp; try rfl
              simp only [Act.put, List.setIfInBounds_toArray, List.set_cons_zero, List.set_cons_succ]
              refine take_at 39 (some 106) (v := ?_) rfl rfl (by kernel_rfl) (by kernel_rfl) (by kernel_rfl) (fun _ _ _ h => h) ⟨by rfl, ?_⟩ hS ?_
              rotate_left
              · intro wq hSw; go_simp; try rfl
              simp only [Act.put, List.setIfInBounds_toArray, List.set_cons_zero, List.set_cons_succ]
              refine take_at 40 (some 107) (v := ?_) rfl rfl (by kernel_rfl) (by kernel_rfl) (by kernel_rfl) (fun _ _ _ h => h) ⟨by rfl, ?_⟩ hS ?_
              rotate_left
              · intro wq hSw; obtain ⟨s0, s1, s2, s3, s4, s5, s6, s7⟩ := hSw; go_simp; try rfl
              simp only [Act.put, List.setIfInBounds_toArray, List.set_cons_zero, List.set_cons_succ]
              refine take_at 41 (some 108) (v := ?_) rfl rfl (by kernel_rfl) (by kernel_rfl) (by kernel_rfl) (fun _ _ _ h => h) ⟨by rfl, ?_⟩ hS ?_
              rotate_left
              · intro wq hSw; go_simp; try rfl
              simp only [Act.put, List.setIfInBounds_toArray, List.set_cons_zero, List.set_cons_succ]
              refine take_at 42 (some 109) (v := ?_) rfl rfl (by kernel_rfl) (by kernel_rfl) (by kernel_rfl) (fun _ _ _ h => h) ⟨by rfl, ?_⟩ hS ?_
              rotate_left
              · intro wq hSw; go_simp; try rfl
              simp only [Act.put, List.setIfInBounds_toArray, List.set_cons_zero, List.set_cons_succ]
              refine take_at 43 (some 110) (v := ?_) rfl rfl (by kernel_rfl) (by kernel_rfl) (by kernel_rfl) (fun _ _ _ h => h) ⟨by rfl, ?_⟩ hS ?_
              rotate_left
              · intro wq hSw; go_simp; try rfl
              simp only [Act.put, List.setIfInBounds_toArray, List.set_cons_zero, List.set_cons_succ]
              refine take_at 44 (some 111) (v := ?_) rfl rfl (by kernel_rfl) (by kernel_rfl) (by kernel_rfl) (fun _ _ _ h => h) ⟨by rfl, ?_⟩ hS ?_
              rotate_left
              · intro wq hSw; go_simp; try rfl
              simp only [Act.put, List.setIfInBounds_toArray, List.set_cons_zero, List.set_cons_succ]
              refine take_at 45 (some 112) (v := ?_) rfl rfl (by kernel_rfl) (by kernel_rfl) (by kernel_rfl) (fun _ _ _ h => h) ⟨by rfl, ?_⟩ hS ?_
              rotate_left
              · intro wq hSw; obtain ⟨s0, s1, s2, s3, s4, s5, s6, s7⟩ := hSw; go_simp; try rfl
              simp only [Act.put, List.setIfInBounds_toArray, List.set_cons_zero, List.set_cons_succ]
              refine take_at 46 (some 113) (v := ?_) rfl rfl (by kernel_rfl) (by kernel_rfl) (by kernel_rfl) (fun _ _ _ h => h) ⟨by rfl, ?_⟩ hS ?_
              rotate_left
              · intro wq hSw; go_simp; try rfl
              simp only [Act.put, List.setIfInBounds_toArray, List.set_cons_zero, List.set_cons_succ]
              refine take_at 47 (some 114) (v := ?_) rfl rfl (by kernel_rfl) (by kernel_rfl) (by kernel_rfl) (fun _ _ _ h => h) ⟨by rfl, ?_⟩ hS ?_
              rotate_left
              · intro wq hSw; go_simp; try rfl
              simp only [Act.put, List.setIfInBounds_toArray, List.set_cons_zero, List.set_cons_succ]
              refine take_at 48 (some 115) (v := ?_) rfl rfl (by kernel_rfl) (by kernel_rfl) (by kernel_rfl) (fun _ _ _ h => h) ⟨by rfl, ?_⟩ hS ?_
              rotate_left
              · intro wq hSw; go_simp; try rfl
              simp only [Act.put, List.setIfInBounds_toArray, List.set_cons_zero, List.set_cons_succ]
              refine take_at 49 (some 116) (v := ?_) rfl rfl (by kernel_rfl) (by kernel_rfl) (by kernel_rfl) (fun _ _ _ h => h) ⟨by rfl, ?_⟩ hS ?_
              rotate_left
              · intro wq hSw; obtain ⟨s0, s1, s2, s3, s4, s5, s6, s7⟩ := hSw; go_simp; try rfl
              simp only [Act.put, List.setIfInBounds_toArray, List.set_cons_zero, List.set_cons_succ]
              refine take_at 50 (some 117) (v := ?_) rfl rfl (by kernel_rfl) (by kernel_rfl) (by kernel_rfl) (fun _ _ _ h => h) ⟨by rfl, ?_⟩ hS ?_
              rotate_left
              · intro wq hSw; obtain ⟨s0, s1, s2, s3, s4, s5, s6, s7⟩ := hSw; go_simp; try rfl
              simp only [Act.put, List.setIfInBounds_toArray, List.set_cons_zero, List.set_cons_succ]
              refine wpAnyH_ready (rs := [51]) (by kernel_rfl) (by simp) ?_
              refine AllReadyH.cons rfl (fun K hK => ?_) AllReadyH.nil
              go_simp
              go_wp2_with fail
              refine (KB _ PQ_1.out).mono ?_
              rintro e x_2 ⟨rfl, hpq, kp⟩
              have hS2 := keep8 (od := od) (p := p) (pw := pw) (ps := ps) kp ME.out hS LT_1
              have LT_2 := ltk LT_1 kp.size
              have PQ_2 := hide hpq
              have TK_2 := hide (TK_1.out.keep kp (fun x hx => .inr (UN.out.off (by have := NB.out; omega))))
              have OD_2 := hide (OD_1.out.keep kp (by have := NB.out; have := OB.out; omega))
              have HB_2 := hide (HB_1.out.trans (kp.below HB_1.out.size (fun z hz q => by have := NB.out; have := OB.out; omega)))
              clear hpq kp PQ_1 TK_1 OD_1 HB_1 LT_1
              go_wp2_with fail
              refine hK.out _ _ hS2 (fun hS => ?_)
              clear hK K
              (try simp only [Act.put, List.setIfInBounds_toArray, List.set_cons_zero, List.set_cons_succ])
              refine wpAnyH_ready (rs := [52]) (by kernel_rfl) (by simp) ?_
              refine AllReadyH.cons rfl (fun K hK => ?_) AllReadyH.nil
              go_simp
              go_wp2_with fail
              refine (num_eq _ _).mono ?_
              rintro e wz ⟨rfl, rfl⟩
              go_wp2_with fail
              refine hK.out _ _ hS (fun hS => ?_)
              clear hK K
              (try simp only [Act.put, List.setIfInBounds_toArray, List.set_cons_zero, List.set_cons_succ])
              refine take_at 53 (some 120) (v := ?_) rfl rfl (by kernel_rfl) (by kernel_rfl) (by kernel_rfl) (fun _ _ _ h => h) ⟨by rfl, ?_⟩ hS ?_
              rotate_left
              · intro wq hSw; go_simp; try rfl
              simp only [Act.put, List.setIfInBounds_toArray, List.set_cons_zero, List.set_cons_succ]
              refine take_at 54 (some 121) (v := ?_) rfl rfl (by kernel_rfl) (by kernel_rfl) (by kernel_rfl) (fun _ _ _ h => h) ⟨by rfl, ?_⟩ hS ?_
              rotate_left
              · intro wq hSw; go_simp; try rfl
              simp only [Act.put, List.setIfInBounds_toArray, List.set_cons_zero, List.set_cons_succ]
              refine take_at 55 (some 122) (v := ?_) rfl rfl (by kernel_rfl) (by kernel_rfl) (by kernel_rfl) (fun _ _ _ h => h) ⟨by rfl, ?_⟩ hS ?_
              rotate_left
              · intro wq hSw; go_simp; try rfl
              simp only [Act.put, List.setIfInBounds_toArray, List.set_cons_zero, List.set_cons_succ]
              refine wpAnyH_done (by kernel_rfl) ?_ _
              go_wp2_with fail
              go_meet
              exact ⟨rfl, TK_2.out, PQ_2.out, OD_2.out, HB_2.out⟩
      case rest =>
        obtain ⟨hv, tk, pq, oc, hb⟩ := hcut
        subst hv
        have TK_b := hide tk
        have PQ_b := hide pq
        have OD_b := hide oc
        have HB_b := hide hb
        obtain ⟨d1, f1, dd1, e1, l1, x0, x1, -⟩ := rowc tk.r1 HP3.out.1
        obtain ⟨d2, f2, dd2, e2, l2, y0, y1, -⟩ := rowc tk.r2 HP3.out.2.1
        obtain ⟨d3, f3, dd3, e3, l3, z0, z1, -⟩ := rowc tk.r3 HP3.out.2.2
        cases e1
        cases e2
        cases e3
        have CS2 := hide (show (fun wq => wq.cell? ⟨ob, 0, none⟩ = some (.int .i64 od.1) ∧ wq.cell? ⟨ob, 1, none⟩ = some (.int .i64 od.2) ∧ wq.cell? ⟨bl1, o1 + i * 2, none⟩ = some (.int .i64 p.1) ∧ wq.cell? ⟨bl1, o1 + i * 2 + 1, none⟩ = some (.int .i64 p.2) ∧ wq.cell? ⟨bl2, o2 + i * 2, none⟩ = some (.int .i64 pw.1) ∧ wq.cell? ⟨bl2, o2 + i * 2 + 1, none⟩ = some (.int .i64 pw.2) ∧ wq.cell? ⟨bl3, o3 + i * 2, none⟩ = some (.int .i64 ps.1) ∧ wq.cell? ⟨bl3, o3 + i * 2 + 1, none⟩ = some (.int .i64 ps.2)) wc from ⟨(oc.get 0 _ rfl).1, (oc.get 1 _ rfl).1, x0, x1, y0, y1, z0, z1⟩)
        have LT_b : ob < wc.heap.size ∧ bl1 < wc.heap.size ∧ bl2 < wc.heap.size ∧ bl3 < wc.heap.size := ⟨oc.1, l1, l2, l3⟩
        clear tk pq oc hb x0 x1 y0 y1 z0 z1 l1 l2 l3 TK_a PQ_a OD_a HB_a LT_a CS KA KB TA TB
        go_upto_region 13 with fail
        refine wp_region_held_drew (S := fun wq => wq.cell? ⟨ob, 0, none⟩ = some (.int .i64 od.1) ∧ wq.cell? ⟨ob, 1, none⟩ = some (.int .i64 od.2) ∧ wq.cell? ⟨bl1, o1 + i * 2, none⟩ = some (.int .i64 p.1) ∧ wq.cell? ⟨bl1, o1 + i * 2 + 1, none⟩ = some (.int .i64 p.2) ∧ wq.cell? ⟨bl2, o2 + i * 2, none⟩ = some (.int .i64 pw.1) ∧ wq.cell? ⟨bl2, o2 + i * 2 + 1, none⟩ = some (.int .i64 pw.2) ∧ wq.cell? ⟨bl3, o3 + i * 2, none⟩ = some (.int .i64 ps.1) ∧ wq.cell? ⟨bl3, o3 + i * 2 + 1, none⟩ = some (.int .i64 ps.2)) (by kernel_rfl) CS2.out (fun hS => ?_)
        have TK_2 := hide (TK_b.out.below (Below.refl _ _).drew)
        have PQ_2 := hide (PQ_b.out.below (Below.refl _ _).drew)
        have OD_2 := hide (OD_b.out.drew)
        have HB_2 := hide (HB_b.out.drew)
        have LT_2 : ob < wc.drew.heap.size ∧ bl1 < wc.drew.heap.size ∧ bl2 < wc.drew.heap.size ∧ bl3 < wc.drew.heap.size := LT_b
        clear TK_b PQ_b OD_b HB_b LT_b CS2
        generalize wc.drew = x_2 at *
        as_aux_lemma =>
          refine take_at 0 (some 123) (v := ?_) rfl rfl (by kernel_rfl) (by kernel_rfl) (by kernel_rfl) (fun _ _ _ h => h) ⟨by rfl, ?_⟩ hS ?_
          rotate_left
          · intro wq hSw; go_simp; try rfl
          simp only [Act.put, List.setIfInBounds_toArray, List.set_cons_zero, List.set_cons_succ]
          refine take_at 1 (some 124) (v := ?_) rfl rfl (by kernel_rfl) (by kernel_rfl) (by kernel_rfl) (fun _ _ _ h => h) ⟨by rfl, ?_⟩ hS ?_
          rotate_left
          · intro wq hSw; go_simp; try rfl
          simp only [Act.put, List.setIfInBounds_toArray, List.set_cons_zero, List.set_cons_succ]
          refine take_at 2 (some 125) (v := ?_) rfl rfl (by kernel_rfl) (by kernel_rfl) (by kernel_rfl) (fun _ _ _ h => h) ⟨by rfl, ?_⟩ hS ?_
          rotate_left
          · intro wq hSw; go_simp; try rfl
          simp only [Act.put, List.setIfInBounds_toArray, List.set_cons_zero, List.set_cons_succ]
          refine take_at 3 (some 126) (v := ?_) rfl rfl (by kernel_rfl) (by kernel_rfl) (by kernel_rfl) (fun _ _ _ h => h) ⟨by rfl, ?_⟩ hS ?_
          rotate_left
          · intro wq hSw; go_simp; try rfl
          simp only [Act.put, List.setIfInBounds_toArray, List.set_cons_zero, List.set_cons_succ]
          refine take_at 4 (some 127) (v := ?_) rfl rfl (by kernel_rfl) (by kernel_rfl) (by kernel_rfl) (fun _ _ _ h => h) ⟨by rfl, ?_⟩ hS ?_
          rotate_left
          · intro wq hSw; go_simp; try rfl
          simp only [Act.put, List.setIfInBounds_toArray, List.set_cons_zero, List.set_cons_succ]
          refine take_at 5 (some 128) (v := ?_) rfl rfl (by kernel_rfl) (by kernel_rfl) (by kernel_rfl) (fun _ _ _ h => h) ⟨by rfl, ?_⟩ hS ?_
          rotate_left
          · intro wq hSw; obtain ⟨s0, s1, s2, s3, s4, s5, s6, s7⟩ := hSw; go_simp; try rfl
          simp only [Act.put, List.setIfInBounds_toArray, List.set_cons_zero, List.set_cons_succ]
          refine take_at 6 (some 129) (v := ?_) rfl rfl (by kernel_rfl) (by kernel_rfl) (by kernel_rfl) (fun _ _ _ h => h) ⟨by rfl, ?_⟩ hS ?_
          rotate_left
          · intro wq hSw; go_simp; try rfl
          simp only [Act.put, List.setIfInBounds_toArray, List.set_cons_zero, List.set_cons_succ]
          refine take_at 7 (some 130) (v := ?_) rfl rfl (by kernel_rfl) (by kernel_rfl) (by kernel_rfl) (fun _ _ _ h => h) ⟨by rfl, ?_⟩ hS ?_
          rotate_left
          · intro wq hSw; go_simp; try rfl
          simp only [Act.put, List.setIfInBounds_toArray, List.set_cons_zero, List.set_cons_succ]
          refine take_at 8 (some 131) (v := ?_) rfl rfl (by kernel_rfl) (by kernel_rfl) (by kernel_rfl) (fun _ _ _ h => h) ⟨by rfl, ?_⟩ hS ?_
          rotate_left
          · intro wq hSw; go_simp; try rfl
          simp only [Act.put, List.setIfInBounds_toArray, List.set_cons_zero, List.set_cons_succ]
          refine take_at 9 (some 132) (v := ?_) rfl rfl (by kernel_rfl) (by kernel_rfl) (by kernel_rfl) (fun _ _ _ h => h) ⟨by rfl, ?_⟩ hS ?_
          rotate_left
          · intro wq hSw; go_simp; try rfl
          simp only [Act.put, List.setIfInBounds_toArray, List.set_cons_zero, List.set_cons_succ]
          refine take_at 10 (some 133) (v := ?_) rfl rfl (by kernel_rfl) (by kernel_rfl) (by kernel_rfl) (fun _ _ _ h => h) ⟨by rfl, ?_⟩ hS ?_
          rotate_left
          · intro wq hSw; obtain ⟨s0, s1, s2, s3, s4, s5, s6, s7⟩ := hSw; go_simp; try rfl
          simp only [Act.put, List.setIfInBounds_toArray, List.set_cons_zero, List.set_cons_succ]
          refine take_at 11 (some 134) (v := ?_) rfl rfl (by kernel_rfl) (by kernel_rfl) (by kernel_rfl) (fun _ _ _ h => h) ⟨by rfl, ?_⟩ hS ?_
          rotate_left
          · intro wq hSw; go_simp; try rfl
          simp only [Act.put, List.setIfInBounds_toArray, List.set_cons_zero, List.set_cons_succ]
          refine take_at 12 (some 135) (v := ?_) rfl rfl (by kernel_rfl) (by kernel_rfl) (by kernel_rfl) (fun _ _ _ h => h) ⟨by rfl, ?_⟩ hS ?_
          rotate_left
          · intro wq hSw; go_simp; try rfl
          simp only [Act.put, List.setIfInBounds_toArray, List.set_cons_zero, List.set_cons_succ]
          refine take_at 13 (some 136) (v := ?_) rfl rfl (by kernel_rfl) (by kernel_rfl) (by kernel_rfl) (fun _ _ _ h => h) ⟨by rfl, ?_⟩ hS ?_
          rotate_left
          · intro wq hSw; go_simp; try rfl
          simp only [Act.put, List.setIfInBounds_toArray, List.set_cons_zero, List.set_cons_succ]
          refine take_at 14 (some 137) (v := ?_) rfl rfl (by kernel_rfl) (by kernel_rfl) (by kernel_rfl) (fun _ _ _ h => h) ⟨by rfl, ?_⟩ hS ?_
          rotate_left
          · intro wq hSw; obtain ⟨s0, s1, s2, s3, s4, s5, s6, s7⟩ := hSw; go_simp; try rfl
          simp only [Act.put, List.setIfInBounds_toArray, List.set_cons_zero, List.set_cons_succ]
          refine take_at 15 (some 138) (v := ?_) rfl rfl (by kernel_rfl) (by kernel_rfl) (by kernel_rfl) (fun _ _ _ h => h) ⟨by rfl, ?_⟩ hS ?_
          rotate_left
          · intro wq hSw; go_simp; try rfl
          simp only [Act.put, List.setIfInBounds_toArray, List.set_cons_zero, List.set_cons_succ]
          refine take_at 16 (some 139) (v := ?_) rfl rfl (by kernel_rfl) (by kernel_rfl) (by kernel_rfl) (fun _ _ _ h => h) ⟨by rfl, ?_⟩ hS ?_
          rotate_left
          · intro wq hSw; go_simp; try rfl
          simp only [Act.put, List.setIfInBounds_toArray, List.set_cons_zero, List.set_cons_succ]
          refine take_at 17 (some 140) (v := ?_) rfl rfl (by kernel_rfl) (by kernel_rfl) (by kernel_rfl) (fun _ _ _ h => h) ⟨by rfl, ?_⟩ hS ?_
          rotate_left
          · intro wq hSw; go_simp; try rfl
          simp only [Act.put, List.setIfInBounds_toArray, List.set_cons_zero, List.set_cons_succ]
          refine take_at 18 (some 141) (v := ?_) rfl rfl (by kernel_rfl) (by kernel_rfl) (by kernel_rfl) (fun _ _ _ h => h) ⟨by rfl, ?_⟩ hS ?_
          rotate_left
          · intro wq hSw; obtain ⟨s0, s1, s2, s3, s4, s5, s6, s7⟩ := hSw; go_simp; try rfl
          simp only [Act.put, List.setIfInBounds_toArray, List.set_cons_zero, List.set_cons_succ]
          refine wpAnyH_ready (rs := [19]) (by kernel_rfl) (by simp) ?_
          refine AllReadyH.cons rfl (fun K hK => ?_) AllReadyH.nil
          go_simp
          go_wp2_with fail
          refine (KC _ PQ_2.out).mono ?_
          rintro e x_3 ⟨rfl, hpq, kp⟩
          have hS2 := keep8 (od := od) (p := p) (pw := pw) (ps := ps) kp ME.out hS LT_2
          have LT_3 := ltk LT_2 kp.size
          have PQ_3 := hide hpq
          have TK_3 := hide (TK_2.out.keep kp (fun x hx => .inr (UN.out.off (by have := NB.out; omega))))
          have OD_3 := hide (OD_2.out.keep kp (by have := NB.out; have := OB.out; omega))
          have HB_3 := hide (HB_2.out.trans (kp.below HB_2.out.size (fun z hz q => by have := NB.out; have := OB.out; omega)))
          clear hpq kp PQ_2 TK_2 OD_2 HB_2 LT_2
          go_wp2_with fail
          refine hK.out _ _ hS2 (fun hS => ?_)
          clear hK K
          (try simp only [Act.put, List.setIfInBounds_toArray, List.set_cons_zero, List.set_cons_succ])
          refine wpAnyH_ready (rs := [20]) (by kernel_rfl) (by simp) ?_
          refine AllReadyH.cons rfl (fun K hK => ?_) AllReadyH.nil
          go_simp
          go_wp2_with fail
          refine (num_eq _ _).mono ?_
          rintro e wz ⟨rfl, rfl⟩
          go_wp2_with fail
          refine hK.out _ _ hS (fun hS => ?_)
          clear hK K
          (try simp only [Act.put, List.setIfInBounds_toArray, List.set_cons_zero, List.set_cons_succ])
          refine take_at 21 (some 144) (v := ?_) rfl rfl (by kernel_rfl) (by kernel_rfl) (by kernel_rfl) (fun _ _ _ h => h) ⟨by rfl, ?_⟩ hS ?_
          rotate_left
          · intro wq hSw; go_simp; try rfl
          simp only [Act.put, List.setIfInBounds_toArray, List.set_cons_zero, List.set_cons_succ]
          refine take_at 22 (some 145) (v := ?_) rfl rfl (by kernel_rfl) (by kernel_rfl) (by kernel_rfl) (fun _ _ _ h => h) ⟨by rfl, ?_⟩ hS ?_
          rotate_left
          · intro wq hSw; go_simp; try rfl
          simp only [Act.put, List.setIfInBounds_toArray, List.set_cons_zero, List.set_cons_succ]
          refine take_at 23 (some 146) (v := ?_) rfl rfl (by kernel_rfl) (by kernel_rfl) (by kernel_rfl) (fun _ _ _ h => h) ⟨by rfl, ?_⟩ hS ?_
          rotate_left
          · intro wq hSw; go_simp; try rfl
          simp only [Act.put, List.setIfInBounds_toArray, List.set_cons_zero, List.set_cons_succ]
          refine take_at 24 (some 147) (v := ?_) rfl rfl (by kernel_rfl) (by kernel_rfl) (by kernel_rfl) (fun _ _ _ h => h) ⟨by rfl, ?_⟩ hS ?_
          rotate_left
          · intro wq hSw; go_simp; try rfl
          simp only [Act.put, List.setIfInBounds_toArray, List.set_cons_zero, List.set_cons_succ]
          refine take_at 25 (some 148) (v := ?_) rfl rfl (by kernel_rfl) (by kernel_rfl) (by kernel_rfl) (fun _ _ _ h => h) ⟨by rfl, ?_⟩ hS ?_
          rotate_left
          · intro wq hSw; go_simp; try rfl
          simp only [Act.put, List.setIfInBounds_toArray, List.set_cons_zero, List.set_cons_succ]
          refine take_at 26 (some 149) (v := ?_) rfl rfl (by kernel_rfl) (by kernel_rfl) (by kernel_rfl) (fun _ _ _ h => h) ⟨by rfl, ?_⟩ hS ?_
          rotate_left
          · intro wq hSw; go_simp; try rfl
          simp only [Act.put, List.setIfInBounds_toArray, List.set_cons_zero, List.set_cons_succ]
          refine take_at 27 (some 150) (v := ?_) rfl rfl (by kernel_rfl) (by kernel_rfl) (by kernel_rfl) (fun _ _ _ h => h) ⟨by rfl, ?_⟩ hS ?_
          rotate_left
          · intro wq hSw; go_simp; try rfl
          simp only [Act.put, List.setIfInBounds_toArray, List.set_cons_zero, List.set_cons_succ]
          refine take_at 28 (some 151) (v := ?_) rfl rfl (by kernel_rfl) (by kernel_rfl) (by kernel_rfl) (fun _ _ _ h => h) ⟨by rfl, ?_⟩ hS ?_
          rotate_left
          · intro wq hSw; obtain ⟨s0, s1, s2, s3, s4, s5, s6, s7⟩ := hSw; go_simp; try rfl
          simp only [Act.put, List.setIfInBounds_toArray, List.set_cons_zero, List.set_cons_succ]
          refine take_at 29 (some 152) (v := ?_) rfl rfl (by kernel_rfl) (by kernel_rfl) (by kernel_rfl) (fun _ _ _ h => h) ⟨by rfl, ?_⟩ hS ?_
          rotate_left
          · intro wq hSw; go_simp; try rfl
          simp only [Act.put, List.setIfInBounds_toArray, List.set_cons_zero, List.set_cons_succ]
          refine take_at 30 (some 153) (v := ?_) rfl rfl (by kernel_rfl) (by kernel_rfl) (by kernel_rfl) (fun _ _ _ h => h) ⟨by rfl, ?_⟩ hS ?_
          rotate_left
          · intro wq hSw; go_simp; try rfl
          simp only [Act.put, List.setIfInBounds_toArray, List.set_cons_zero, List.set_cons_succ]
          refine take_at 31 (some 154) (v := ?_) rfl rfl (by kernel_rfl) (by kernel_rfl) (by kernel_rfl) (fun _ _ _ h => h) ⟨by rfl, ?_⟩ hS ?_
          rotate_left
          · intro wq hSw; go_simp; try rfl
          simp only [Act.put, List.setIfInBounds_toArray, List.set_cons_zero, List.set_cons_succ]
          refine take_at 32 (some 155) (v := ?_) rfl rfl (by kernel_rfl) (by kernel_rfl) (by kernel_rfl) (fun _ _ _ h => h) ⟨by rfl, ?_⟩ hS ?_
          rotate_left
          · intro wq hSw; go_simp; try rfl
          simp only [Act.put, List.setIfInBounds_toArray, List.set_cons_zero, List.set_cons_succ]
          refine take_at 33 (some 156) (v := ?_) rfl rfl (by kernel_rfl) (by kernel_rfl) (by kernel_rfl) (fun _ _ _ h => h) ⟨by rfl, ?_⟩ hS ?_
          rotate_left
          · intro wq hSw; obtain ⟨s0, s1, s2, s3, s4, s5, s6, s7⟩ := hSw; go_simp; try rfl
          simp only [Act.put, List.setIfInBounds_toArray, List.set_cons_zero, List.set_cons_succ]
          refine take_at 34 (some 157) (v := ?_) rfl rfl (by kernel_rfl) (by kernel_rfl) (by kernel_rfl) (fun _ _ _ h => h) ⟨by rfl, ?_⟩ hS ?_
          rotate_left
          · intro wq hSw; go_simp; try rfl
          simp only [Act.put, List.setIfInBounds_toArray, List.set_cons_zero, List.set_cons_succ]
          refine take_at 35 (some 158) (v := ?_) rfl rfl (by kernel_rfl) (by kernel_rfl) (by kernel_rfl) (fun _ _ _ h => h) ⟨by rfl, ?_⟩ hS ?_
          rotate_left
          · intro wq hSw; go_simp; try rfl
          simp only [Act.put, List.setIfInBounds_toArray, List.set_cons_zero, List.set_cons_succ]
          refine take_at 36 (some 159) (v := ?_) rfl rfl (by kernel_rfl) (by kernel_rfl) (by kernel_rfl) (fun _ _ _ h => h) ⟨by rfl, ?_⟩ hS ?_
          rotate_left
          · intro wq hSw; go_simp; try rfl
          simp only [Act.put, List.setIfInBounds_toArray, List.set_cons_zero, List.set_cons_succ]
          refine take_at 37 (some 160) (v := ?_) rfl rfl (by kernel_rfl) (by kernel_rfl) (by kernel_rfl) (fun _ _ _ h => h) ⟨by rfl, ?_⟩ hS ?_
          rotate_left
          · intro wq hSw; obtain ⟨s0, s1, s2, s3, s4, s5, s6, s7⟩ := hSw; go_simp; try rfl
          simp only [Act.put, List.setIfInBounds_toArray, List.set_cons_zero, List.set_cons_succ]
          refine take_at 38 (some 161) (v := ?_) rfl rfl (by kernel_rfl) (by kernel_rfl) (by kernel_rfl) (fun _ _ _ h => h) ⟨by rfl, ?_⟩ hS ?_
          rotate_left
          · intro wq hSw; go_simp; try rfl
          simp only [Act.put, List.setIfInBounds_toArray, List.set_cons_zero, List.set_cons_succ]
          refine take_at 39 (some 162) (v := ?_) rfl rfl (by kernel_rfl) (by kernel_rfl) (by kernel_rfl) (fun _ _ _ h => h) ⟨by rfl, ?_⟩ hS ?_
          rotate_left
          · intro wq hSw; go_simp; try rfl
          simp only [Act.put, List.setIfInBounds_toArray, List.set_cons_zero, List.set_cons_succ]
          refine take_at 40 (some 163) (v := ?_) rfl rfl (by kernel_rfl) (by kernel_rfl) (by kernel_rfl) (fun _ _ _ h => h) ⟨by rfl, ?_⟩ hS ?_
          rotate_left
          · intro wq hSw; go_simp; try rfl
          simp only [Act.put, List.setIfInBounds_toArray, List.set_cons_zero, List.set_cons_succ]
          refine take_at 41 (some 164) (v := ?_) rfl rfl (by kernel_rfl) (by kernel_rfl) (by kernel_rfl) (fun _ _ _ h => h) ⟨by rfl, ?_⟩ hS ?_
          rotate_left
          · intro wq hSw; obtain ⟨s0, s1, s2, s3, s4, s5, s6, s7⟩ := hSw; go_simp; try rfl
          simp only [Act.put, List.setIfInBounds_toArray, List.set_cons_zero, List.set_cons_succ]
          refine wpAnyH_ready (rs := [42]) (by kernel_rfl) (by simp) ?_
          refine AllReadyH.cons rfl (fun K hK => ?_) AllReadyH.nil
          go_simp
          go_wp2_with fail
          refine (KD _ PQ_3.out).mono ?_
          rintro e x_4 ⟨rfl, hpq, kp⟩
          have hS2 := keep8 (od := od) (p := p) (pw := pw) (ps := ps) kp ME.out hS LT_3
          have LT_4 := ltk LT_3 kp.size
          have PQ_4 := hide hpq
          have TK_4 := hide (TK_3.out.keep kp (fun x hx => .inr (UN.out.off (by have := NB.out; omega))))
          have OD_4 := hide (OD_3.out.keep kp (by have := NB.out; have := OB.out; omega))
          have HB_4 := hide (HB_3.out.trans (kp.below HB_3.out.size (fun z hz q => by have := NB.out; have := OB.out; omega)))
          clear hpq kp PQ_3 TK_3 OD_3 HB_3 LT_3
          go_wp2_with fail
          refine hK.out _ _ hS2 (fun hS => ?_)
          clear hK K
          (try simp only [Act.put, List.setIfInBounds_toArray, List.set_cons_zero, List.set_cons_succ])
          refine wpAnyH_ready (rs := [43]) (by kernel_rfl) (by simp) ?_
          refine AllReadyH.cons rfl (fun K hK => ?_) AllReadyH.nil
          go_simp
          go_wp2_with fail
          refine (num_eq _ _).mono ?_
          rintro e wz ⟨rfl, rfl⟩
          go_wp2_with fail
          refine hK.out _ _ hS (fun hS => ?_)
          clear hK K
          (try simp only [Act.put, List.setIfInBounds_toArray, List.set_cons_zero, List.set_cons_succ])
          refine take_at 44 (some 167) (v := ?_) rfl rfl (by kernel_rfl) (by kernel_rfl) (by kernel_rfl) (fun _ _ _ h => h) ⟨by rfl, ?_⟩ hS ?_
          rotate_left
          · intro wq hSw; go_simp; try rfl
          simp only [Act.put, List.setIfInBounds_toArray, List.set_cons_zero, List.set_cons_succ]
          refine take_at 45 (some 168) (v := ?_) rfl rfl (by kernel_rfl) (by kernel_rfl) (by kernel_rfl) (fun _ _ _ h => h) ⟨by rfl, ?_⟩ hS ?_
          rotate_left
          · intro wq hSw; go_simp; try rfl
          simp only [Act.put, List.setIfInBounds_toArray, List.set_cons_zero, List.set_cons_succ]
          refine wpAnyH_done (by kernel_rfl) ?_ _
          go_wp2_with fail
          go_roundw
          case rel => first | exact ⟨i + 1, by go_num, by omega, TK_4.out, PQ_4.out, OD_4.out, HB_4.out⟩ | ((repeat apply Exists.intro); exact ⟨⟨i + 1, by go_num, by omega, TK_4.out, PQ_4.out, OD_4.out, HB_4.out⟩, rfl⟩)
          case measure => simp [intOf]; omega
    · obtain rfl : i = own.length := by omega
      have PR1 := hide TK_a.out.pr
      have PR2 := hide (show PR wr bq mq gq (build P own) by have := PQ_a.out; rw [List.take_length] at this; exact this)
      clear TK_a PQ_a OD_a UN NB OB EL1 EL2 HH
      obtain ⟨R, hR⟩ : ∃ R, R = build P own := ⟨_, rfl⟩
      rw [← hR] at PR1 PR2
      clear hR
      go_wp2_with fail
      go_loopw [17] (fun v ws => ∃ k : Nat, v = .int .i64 (k : Int) ∧ k ≤ ys.length ∧ k ≤ 200 ∧ PR ws b m g R ∧ PR ws bq mq gq R ∧ Below w.heap.size w ws) (fun v _ => 200 - (intOf v).toNat)
      case atStart => exact ⟨0, rfl, Nat.zero_le _, by omega, PR1.out, PR2.out, HB_a.out⟩
      case round =>
        obtain ⟨k, rfl, hk1, hk2, q1, q2, hb⟩ := hrel
        have PA := hide q1
        have PB := hide q2
        have HB := hide hb
        clear q1 q2 hb PR1 PR2 HB_a
        by_cases hlt1 : k < ys.length
        · by_cases hlt2 : k < 200
          · obtain ⟨bl, off, ha, hbl, hcell⟩ := Lies.rowAt c2 2 (fun _ => rfl) HLJ.out k hlt1 (by omega)
            subst ha
            have hbl2 : bl < wr.heap.size := Nat.lt_of_lt_of_le hbl HB.out.size
            have y0 : wr.cell? ⟨bl, off + k * 2, none⟩ = some (.int .i64 ys[k].1) := (HB.out.cell (p := ⟨bl, off + k * 2, none⟩) hbl).trans (hcell 0 _ rfl)
            have y1 : wr.cell? ⟨bl, off + k * 2 + 1, none⟩ = some (.int .i64 ys[k].2) := (HB.out.cell (p := ⟨bl, off + k * 2 + 1, none⟩) hbl).trans (hcell 1 _ rfl)
            obtain ⟨hI1, hI2⟩ := HYS.out ys[k] (List.getElem_mem hlt1)
            obtain ⟨y, hy⟩ : ∃ y, y = ys[k] := ⟨_, rfl⟩
            rw [← hy] at y0 y1 hI1 hI2
            clear hcell hy
            have KPr := fun w' (h : PR w' b m g R) => plan_any b m g R y.1 y.2 w' h
            have KPq := fun w' (h : PR w' bq mq gq R) => plan_any bq mq gq R y.1 y.2 w' h
            have KFr := fun w' (h : PR w' b m g R) => find_any b m g R y.1 w' h hI1
            have KFq := fun w' (h : PR w' bq mq gq R) => find_any bq mq gq R y.1 w' h hI1
            unfold PlanPost at KPr KPq
            generalize R.planW y.1 y.2 = PW at *
            generalize R.planS y.1 y.2 = PS at *
            generalize R.planE y.1 y.2 = PE at *
            generalize R.findW y.1 = FW at *
            generalize R.findG y.1 = FG at *
            generalize R.findS y.1 = FSm at *
            generalize R.findE y.1 = FE at *
            have hk3 : decide ((k : Int) < 200) = true := by simp; omega
            have hk4 : decide ((k : Int) < (ys.length : Int)) = true := by simp; omega
            go_upto_region 18 with fail
            go_cut [18, 19, 20] from 179 to 194 (fun v1 v2 v3 w' => ∃ FA FB, v1 = ptr FA ∧ v2 = ptr FB ∧ v3 = .int .i64 PE ∧ Cells w' FA [.int .i64 PW.1, .int .i64 PW.2] ∧ Cells w' FB [.int .i64 PS.1, .int .i64 PS.2] ∧ FA ≠ FB ∧ Below wr.heap.size wr w')
            case first =>
              refine wp_region_held_drew (S := fun wq => wq.cell? ⟨bl, off + k * 2, none⟩ = some (.int .i64 y.1) ∧ wq.cell? ⟨bl, off + k * 2 + 1, none⟩ = some (.int .i64 y.2)) (by kernel_rfl) ⟨y0, y1⟩ (fun hS => ?_)
              have HX := hide (show Below wr.heap.size wr wr.drew ∧ wr.heap.size ≤ wr.drew.heap.size from ⟨(Below.refl _ _).drew, Nat.le_refl _⟩)
              have HPR := hide (PA.out.below (Below.refl _ _).drew)
              have lt0 : bl < wr.drew.heap.size := hbl2
              have hS0 := hide hS
              clear PA PB HB y0 y1 hbl2 KPq KFr KFq
              generalize wr.drew = x0 at *
              have B0 := hide (Below.refl x0.heap.size x0)
              as_aux_lemma =>
                refine take_at 0 (some 180) (v := ?_) rfl rfl (by kernel_rfl) (by kernel_rfl) (by kernel_rfl) (fun _ _ _ h => h) ⟨by rfl, ?_⟩ hS ?_
                rotate_left
                · intro wq hSw; go_simp; try rfl
                simp only [Act.put, List.setIfInBounds_toArray, List.set_cons_zero, List.set_cons_succ]
                refine take_at 1 (some 181) (v := ?_) rfl rfl (by kernel_rfl) (by kernel_rfl) (by kernel_rfl) (fun _ _ _ h => h) ⟨by rfl, ?_⟩ hS ?_
                rotate_left
                · intro wq hSw; go_simp; try rfl
                simp only [Act.put, List.setIfInBounds_toArray, List.set_cons_zero, List.set_cons_succ]
                refine take_at 2 (some 182) (v := ?_) rfl rfl (by kernel_rfl) (by kernel_rfl) (by kernel_rfl) (fun _ _ _ h => h) ⟨by rfl, ?_⟩ hS ?_
                rotate_left
                · intro wq hSw; go_simp; try rfl
                simp only [Act.put, List.setIfInBounds_toArray, List.set_cons_zero, List.set_cons_succ]
                refine take_at 3 (some 183) (v := ?_) rfl rfl (by kernel_rfl) (by kernel_rfl) (by kernel_rfl) (fun _ _ _ h => h) ⟨by rfl, ?_⟩ hS ?_
                rotate_left
                · intro wq hSw; go_simp; try rfl
                simp only [Act.put, List.setIfInBounds_toArray, List.set_cons_zero, List.set_cons_succ]
                refine take_at 4 (some 184) (v := ?_) rfl rfl (by kernel_rfl) (by kernel_rfl) (by kernel_rfl) (fun _ _ _ h => h) ⟨by rfl, ?_⟩ hS ?_
                rotate_left
                · intro wq hSw; go_simp; try rfl
                simp only [Act.put, List.setIfInBounds_toArray, List.set_cons_zero, List.set_cons_succ]
                refine take_at 5 (some 185) (v := ?_) rfl rfl (by kernel_rfl) (by kernel_rfl) (by kernel_rfl) (fun _ _ _ h => h) ⟨by rfl, ?_⟩ hS ?_
                rotate_left
                · intro wq hSw; obtain ⟨s0, s1⟩ := hSw; go_simp; try rfl
                simp only [Act.put, List.setIfInBounds_toArray, List.set_cons_zero, List.set_cons_succ]
                refine take_at 6 (some 186) (v := ?_) rfl rfl (by kernel_rfl) (by kernel_rfl) (by kernel_rfl) (fun _ _ _ h => h) ⟨by rfl, ?_⟩ hS ?_
                rotate_left
                · intro wq hSw; go_simp; try rfl
                simp only [Act.put, List.setIfInBounds_toArray, List.set_cons_zero, List.set_cons_succ]
                refine take_at 7 (some 187) (v := ?_) rfl rfl (by kernel_rfl) (by kernel_rfl) (by kernel_rfl) (fun _ _ _ h => h) ⟨by rfl, ?_⟩ hS ?_
                rotate_left
                · intro wq hSw; go_simp; try rfl
                simp only [Act.put, List.setIfInBounds_toArray, List.set_cons_zero, List.set_cons_succ]
                refine take_at 8 (some 188) (v := ?_) rfl rfl (by kernel_rfl) (by kernel_rfl) (by kernel_rfl) (fun _ _ _ h => h) ⟨by rfl, ?_⟩ hS ?_
                rotate_left
                · intro wq hSw; go_simp; try rfl
                simp only [Act.put, List.setIfInBounds_toArray, List.set_cons_zero, List.set_cons_succ]
                refine take_at 9 (some 189) (v := ?_) rfl rfl (by kernel_rfl) (by kernel_rfl) (by kernel_rfl) (fun _ _ _ h => h) ⟨by rfl, ?_⟩ hS ?_
                rotate_left
                · intro wq hSw; go_simp; try rfl
                simp only [Act.put, List.setIfInBounds_toArray, List.set_cons_zero, List.set_cons_succ]
                refine take_at 10 (some 190) (v := ?_) rfl rfl (by kernel_rfl) (by kernel_rfl) (by kernel_rfl) (fun _ _ _ h => h) ⟨by rfl, ?_⟩ hS ?_
                rotate_left
                · intro wq hSw; obtain ⟨s0, s1⟩ := hSw; go_simp; try rfl
                simp only [Act.put, List.setIfInBounds_toArray, List.set_cons_zero, List.set_cons_succ]
                refine wpAnyH_ready (rs := [11, 16, 17]) (by kernel_rfl) (by simp) ?_
                refine AllReadyH.cons rfl (fun K hK => ?_) (AllReadyH.cons rfl (fun K hK => ?_) (AllReadyH.cons rfl (fun K hK => ?_) AllReadyH.nil))
                · go_simp
                  go_wp2_with fail
                  refine (KPr _ (HPR.out.below B0.out)).mono ?_
                  rintro e c1 ⟨rfl, hh⟩
                  have B1 := hide (B0.out.trans (hh.mono B0.out.size))
                  clear hh
                  go_wp2_with fail
                  refine hK.out _ _ ⟨(Below.cell B1.out (p := ⟨bl, off + k * 2, none⟩) lt0).trans hS0.out.1, (Below.cell B1.out (p := ⟨bl, off + k * 2 + 1, none⟩) lt0).trans hS0.out.2⟩ (fun hS => ?_)
                  clear hK K
                  (try simp only [Act.put, List.setIfInBounds_toArray, List.set_cons_zero, List.set_cons_succ])
                  refine take_at 12 (some 179) (v := ?_) rfl rfl (by kernel_rfl) (by kernel_rfl) (by kernel_rfl) (fun _ _ _ h => h) ⟨by rfl, ?_⟩ hS ?_
                  rotate_left
                  · intro wq hSw; go_simp; try rfl
                  simp only [Act.put, List.setIfInBounds_toArray, List.set_cons_zero, List.set_cons_succ]
                  refine take_at 13 (some 192) (v := ?_) rfl rfl (by kernel_rfl) (by kernel_rfl) (by kernel_rfl) (fun _ _ _ h => h) ⟨by rfl, ?_⟩ hS ?_
                  rotate_left
                  · intro wq hSw; go_simp; try rfl
                  simp only [Act.put, List.setIfInBounds_toArray, List.set_cons_zero, List.set_cons_succ]
                  refine take_at 14 (some 193) (v := ?_) rfl rfl (by kernel_rfl) (by kernel_rfl) (by kernel_rfl) (fun _ _ _ h => h) ⟨by rfl, ?_⟩ hS ?_
                  rotate_left
                  · intro wq hSw; go_simp; try rfl
                  simp only [Act.put, List.setIfInBounds_toArray, List.set_cons_zero, List.set_cons_succ]
                  refine take_at 15 (some 194) (v := ?_) rfl rfl (by kernel_rfl) (by kernel_rfl) (by kernel_rfl) (fun _ _ _ h => h) ⟨by rfl, ?_⟩ hS ?_
                  rotate_left
                  · intro wq hSw; go_simp; try rfl
                  simp only [Act.put, List.setIfInBounds_toArray, List.set_cons_zero, List.set_cons_succ]
                  refine wpAnyH_ready (rs := [16, 17]) (by kernel_rfl) (by simp) ?_
                  refine AllReadyH.cons rfl (fun K hK => ?_) (AllReadyH.cons rfl (fun K hK => ?_) AllReadyH.nil)
                  · go_simp
                    go_wp2_with fail
                    have hh := alloc_below c1 (.cells #[.int .i64 0, .int .i64 0] 30)
                    have B2 := hide (B1.out.trans (hh.mono B1.out.size))
                    have A2 := hide (Cells.new c1 #[.int .i64 0, .int .i64 0] 30)
                    refine hK.out _ _ ⟨(Below.cell B2.out (p := ⟨bl, off + k * 2, none⟩) lt0).trans hS0.out.1, (Below.cell B2.out (p := ⟨bl, off + k * 2 + 1, none⟩) lt0).trans hS0.out.2⟩ (fun hS => ?_)
                    clear hK K
                    refine named (P := wpAnyH _ _ _ _ _ _ _ _) ?_
                    intro c2 hcm
                    rw [← hcm] at B2 A2
                    have hsz : c1.heap.size + 1 = c2.heap.size := by rw [hcm]; simp
                    obtain ⟨FA, hFA⟩ : ∃ F, F = c1.heap.size := ⟨_, rfl⟩
                    rw [← hFA] at A2 ⊢
                    have loFA := hide (show x0.heap.size ≤ FA by have := B1.out.size; omega)
                    clear hh hcm hsz hFA
                    (try simp only [Act.put, List.setIfInBounds_toArray, List.set_cons_zero, List.set_cons_succ])
                    clear B1
                    refine wpAnyH_ready (rs := [17]) (by kernel_rfl) (by simp) ?_
                    refine AllReadyH.cons rfl (fun K hK => ?_) AllReadyH.nil
                    go_simp
                    go_wp2_with fail
                    have hh := alloc_below c2 (.cells #[.int .i64 0, .int .i64 0] 30)
                    have B3 := hide (B2.out.trans (hh.mono B2.out.size))
                    have A3 := hide (A2.out.below hh)
                    have D3 := hide (Cells.new c2 #[.int .i64 0, .int .i64 0] 30)
                    refine hK.out _ _ ⟨(Below.cell B3.out (p := ⟨bl, off + k * 2, none⟩) lt0).trans hS0.out.1, (Below.cell B3.out (p := ⟨bl, off + k * 2 + 1, none⟩) lt0).trans hS0.out.2⟩ (fun hS => ?_)
                    clear hK K
                    refine named (P := wpAnyH _ _ _ _ _ _ _ _) ?_
                    intro c3 hcm
                    rw [← hcm] at B3 A3 D3
                    have hsz : c2.heap.size + 1 = c3.heap.size := by rw [hcm]; simp
                    obtain ⟨FB, hFB⟩ : ∃ F, F = c2.heap.size := ⟨_, rfl⟩
                    rw [← hFB] at D3 ⊢
                    have lab := hide (show x0.heap.size ≤ FA ∧ x0.heap.size ≤ FB ∧ FA ≠ FB by have := A2.out.1; have := B2.out.size; have := loFA.out; omega)
                    clear hh hcm hsz hFB
                    (try simp only [Act.put, List.setIfInBounds_toArray, List.set_cons_zero, List.set_cons_succ])
                    clear B2
                    obtain ⟨ra0, ra0f⟩ := A3.out.get 0 _ rfl
                    obtain ⟨ra1, ra1f⟩ := A3.out.get 1 _ rfl
                    obtain ⟨rb0, rb0f⟩ := D3.out.get 0 _ rfl
                    obtain ⟨rb1, rb1f⟩ := D3.out.get 1 _ rfl
                    have ku := ((Keep.refl (fun z => z = FA) c3).setCell (g := FA) (j := 0) (fun _ => rfl) (.int .i64 PW.1)).setCell (g := FA) (j := 1) (fun _ => rfl) (.int .i64 PW.2)
                    have kv := ((((Keep.refl (fun z => z = FA ∨ z = FB) c3).setCell (g := FA) (j := 0) (fun _ => .inl rfl) (.int .i64 PW.1)).setCell (g := FA) (j := 1) (fun _ => .inl rfl) (.int .i64 PW.2)).setCell (g := FB) (j := 0) (fun _ => .inr rfl) (.int .i64 PS.1)).setCell (g := FB) (j := 1) (fun _ => .inr rfl) (.int .i64 PS.2)
                    have bu := B3.out.trans (ku.below B3.out.size (fun z hz q => by have := lab.out; omega))
                    have bv := B3.out.trans (kv.below B3.out.size (fun z hz q => by have := lab.out; omega))
                    have ca := ((((A3.out.stored (j := 0) (by simp) (.int .i64 PW.1)).stored (j := 1) (by simp) (.int .i64 PW.2)).other (g := FB) (j := 0) (y := .int .i64 PS.1) (by have := lab.out; omega)).other (g := FB) (j := 1) (y := .int .i64 PS.2) (by have := lab.out; omega))
                    have cb := (((D3.out.other (g := FA) (j := 0) (y := .int .i64 PW.1) (by have := lab.out; omega)).other (g := FA) (j := 1) (y := .int .i64 PW.2) (by have := lab.out; omega)).stored (j := 0) (by simp) (.int .i64 PS.1)).stored (j := 1) (by simp) (.int .i64 PS.2)
                    have une : FA ≠ FB := by have := lab.out; omega
                    have une2 : FB ≠ FA := by have := lab.out; omega
                    refine wpAnyH_ready (rs := [18]) (by kernel_rfl) (by simp) ?_
                    refine AllReadyH.cons rfl (fun K hK => ?_) AllReadyH.nil
                    go_simp
                    go_wp2_with fail
                    refine hK.out _ _ ⟨(Below.cell bu (p := ⟨bl, off + k * 2, none⟩) lt0).trans hS0.out.1, (Below.cell bu (p := ⟨bl, off + k * 2 + 1, none⟩) lt0).trans hS0.out.2⟩ (fun hS => ?_)
                    clear hK K
                    (try simp only [Act.put, List.setIfInBounds_toArray, List.set_cons_zero, List.set_cons_succ])
                    refine wpAnyH_ready (rs := [19]) (by kernel_rfl) (by simp) ?_
                    refine AllReadyH.cons rfl (fun K hK => ?_) AllReadyH.nil
                    go_simp
                    go_wp2_with fail
                    refine hK.out _ _ ⟨(Below.cell bv (p := ⟨bl, off + k * 2, none⟩) lt0).trans hS0.out.1, (Below.cell bv (p := ⟨bl, off + k * 2 + 1, none⟩) lt0).trans hS0.out.2⟩ (fun hS => ?_)
                    clear hK K
                    (try simp only [Act.put, List.setIfInBounds_toArray, List.set_cons_zero, List.set_cons_succ])
                    refine take_at 20 (some 20) (v := ?_) rfl rfl (by kernel_rfl) (by kernel_rfl) (by kernel_rfl) (fun _ _ _ h => h) ⟨by rfl, ?_⟩ hS ?_
                    rotate_left
                    · intro wq hSw; go_simp; try rfl
                    simp only [Act.put, List.setIfInBounds_toArray, List.set_cons_zero, List.set_cons_succ]
                    refine wpAnyH_done (by kernel_rfl) ?_ _
                    go_wp2_with fail
                    go_meet
                    exact ⟨FA, FB, rfl, rfl, rfl, by simpa using ca, by simpa using cb, une, HX.out.1.trans (bv.mono (by have := HX.out.2; omega))⟩
                  · go_simp
                    go_wp2_with fail
                    have hh := alloc_below c1 (.cells #[.int .i64 0, .int .i64 0] 30)
                    have B2 := hide (B1.out.trans (hh.mono B1.out.size))
                    have D2 := hide (Cells.new c1 #[.int .i64 0, .int .i64 0] 30)
                    refine hK.out _ _ ⟨(Below.cell B2.out (p := ⟨bl, off + k * 2, none⟩) lt0).trans hS0.out.1, (Below.cell B2.out (p := ⟨bl, off + k * 2 + 1, none⟩) lt0).trans hS0.out.2⟩ (fun hS => ?_)
                    clear hK K
                    refine named (P := wpAnyH _ _ _ _ _ _ _ _) ?_
                    intro c2 hcm
                    rw [← hcm] at B2 D2
                    have hsz : c1.heap.size + 1 = c2.heap.size := by rw [hcm]; simp
                    obtain ⟨FB, hFB⟩ : ∃ F, F = c1.heap.size := ⟨_, rfl⟩
                    rw [← hFB] at D2 ⊢
                    have loFB := hide (show x0.heap.size ≤ FB by have := B1.out.size; omega)
                    clear hh hcm hsz hFB
                    (try simp only [Act.put, List.setIfInBounds_toArray, List.set_cons_zero, List.set_cons_succ])
                    clear B1
                    refine wpAnyH_ready (rs := [16]) (by kernel_rfl) (by simp) ?_
                    refine AllReadyH.cons rfl (fun K hK => ?_) AllReadyH.nil
                    go_simp
                    go_wp2_with fail
                    have hh := alloc_below c2 (.cells #[.int .i64 0, .int .i64 0] 30)
                    have B3 := hide (B2.out.trans (hh.mono B2.out.size))
                    have D3 := hide (D2.out.below hh)
                    have A3 := hide (Cells.new c2 #[.int .i64 0, .int .i64 0] 30)
                    refine hK.out _ _ ⟨(Below.cell B3.out (p := ⟨bl, off + k * 2, none⟩) lt0).trans hS0.out.1, (Below.cell B3.out (p := ⟨bl, off + k * 2 + 1, none⟩) lt0).trans hS0.out.2⟩ (fun hS => ?_)
                    clear hK K
                    refine named (P := wpAnyH _ _ _ _ _ _ _ _) ?_
                    intro c3 hcm
                    rw [← hcm] at B3 A3 D3
                    have hsz : c2.heap.size + 1 = c3.heap.size := by rw [hcm]; simp
                    obtain ⟨FA, hFA⟩ : ∃ F, F = c2.heap.size := ⟨_, rfl⟩
                    rw [← hFA] at A3 ⊢
                    have lab := hide (show x0.heap.size ≤ FA ∧ x0.heap.size ≤ FB ∧ FA ≠ FB by have := D2.out.1; have := B2.out.size; have := loFB.out; omega)
                    clear hh hcm hsz hFA
                    (try simp only [Act.put, List.setIfInBounds_toArray, List.set_cons_zero, List.set_cons_succ])
                    clear B2
                    obtain ⟨ra0, ra0f⟩ := A3.out.get 0 _ rfl
                    obtain ⟨ra1, ra1f⟩ := A3.out.get 1 _ rfl
                    obtain ⟨rb0, rb0f⟩ := D3.out.get 0 _ rfl
                    obtain ⟨rb1, rb1f⟩ := D3.out.get 1 _ rfl
                    have ku := ((Keep.refl (fun z => z = FA) c3).setCell (g := FA) (j := 0) (fun _ => rfl) (.int .i64 PW.1)).setCell (g := FA) (j := 1) (fun _ => rfl) (.int .i64 PW.2)
                    have kv := ((((Keep.refl (fun z => z = FA ∨ z = FB) c3).setCell (g := FA) (j := 0) (fun _ => .inl rfl) (.int .i64 PW.1)).setCell (g := FA) (j := 1) (fun _ => .inl rfl) (.int .i64 PW.2)).setCell (g := FB) (j := 0) (fun _ => .inr rfl) (.int .i64 PS.1)).setCell (g := FB) (j := 1) (fun _ => .inr rfl) (.int .i64 PS.2)
                    have bu := B3.out.trans (ku.below B3.out.size (fun z hz q => by have := lab.out; omega))
                    have bv := B3.out.trans (kv.below B3.out.size (fun z hz q => by have := lab.out; omega))
                    have ca := ((((A3.out.stored (j := 0) (by simp) (.int .i64 PW.1)).stored (j := 1) (by simp) (.int .i64 PW.2)).other (g := FB) (j := 0) (y := .int .i64 PS.1) (by have := lab.out; omega)).other (g := FB) (j := 1) (y := .int .i64 PS.2) (by have := lab.out; omega))
                    have cb := (((D3.out.other (g := FA) (j := 0) (y := .int .i64 PW.1) (by have := lab.out; omega)).other (g := FA) (j := 1) (y := .int .i64 PW.2) (by have := lab.out; omega)).stored (j := 0) (by simp) (.int .i64 PS.1)).stored (j := 1) (by simp) (.int .i64 PS.2)
                    have une : FA ≠ FB := by have := lab.out; omega
                    have une2 : FB ≠ FA := by have := lab.out; omega
                    refine wpAnyH_ready (rs := [18]) (by kernel_rfl) (by simp) ?_
                    refine AllReadyH.cons rfl (fun K hK => ?_) AllReadyH.nil
                    go_simp
                    go_wp2_with fail
                    refine hK.out _ _ ⟨(Below.cell bu (p := ⟨bl, off + k * 2, none⟩) lt0).trans hS0.out.1, (Below.cell bu (p := ⟨bl, off + k * 2 + 1, none⟩) lt0).trans hS0.out.2⟩ (fun hS => ?_)
                    clear hK K
                    (try simp only [Act.put, List.setIfInBounds_toArray, List.set_cons_zero, List.set_cons_succ])
                    refine wpAnyH_ready (rs := [19]) (by kernel_rfl) (by simp) ?_
                    refine AllReadyH.cons rfl (fun K hK => ?_) AllReadyH.nil
                    go_simp
                    go_wp2_with fail
                    refine hK.out _ _ ⟨(Below.cell bv (p := ⟨bl, off + k * 2, none⟩) lt0).trans hS0.out.1, (Below.cell bv (p := ⟨bl, off + k * 2 + 1, none⟩) lt0).trans hS0.out.2⟩ (fun hS => ?_)
                    clear hK K
                    (try simp only [Act.put, List.setIfInBounds_toArray, List.set_cons_zero, List.set_cons_succ])
                    refine take_at 20 (some 20) (v := ?_) rfl rfl (by kernel_rfl) (by kernel_rfl) (by kernel_rfl) (fun _ _ _ h => h) ⟨by rfl, ?_⟩ hS ?_
                    rotate_left
                    · intro wq hSw; go_simp; try rfl
                    simp only [Act.put, List.setIfInBounds_toArray, List.set_cons_zero, List.set_cons_succ]
                    refine wpAnyH_done (by kernel_rfl) ?_ _
                    go_wp2_with fail
                    go_meet
                    exact ⟨FA, FB, rfl, rfl, rfl, by simpa using ca, by simpa using cb, une, HX.out.1.trans (bv.mono (by have := HX.out.2; omega))⟩
                · go_simp
                  go_wp2_with fail
                  have hh := alloc_below x0 (.cells #[.int .i64 0, .int .i64 0] 30)
                  have B1 := hide (B0.out.trans (hh.mono B0.out.size))
                  have A1 := hide (Cells.new x0 #[.int .i64 0, .int .i64 0] 30)
                  refine hK.out _ _ ⟨(Below.cell B1.out (p := ⟨bl, off + k * 2, none⟩) lt0).trans hS0.out.1, (Below.cell B1.out (p := ⟨bl, off + k * 2 + 1, none⟩) lt0).trans hS0.out.2⟩ (fun hS => ?_)
                  clear hK K
                  refine named (P := wpAnyH _ _ _ _ _ _ _ _) ?_
                  intro c1 hcm
                  rw [← hcm] at B1 A1
                  have hsz : x0.heap.size + 1 = c1.heap.size := by rw [hcm]; simp
                  obtain ⟨FA, hFA⟩ : ∃ F, F = x0.heap.size := ⟨_, rfl⟩
                  rw [← hFA] at A1 ⊢
                  have loFA := hide (show x0.heap.size ≤ FA by have := B0.out.size; omega)
                  clear hh hcm hsz hFA
                  (try simp only [Act.put, List.setIfInBounds_toArray, List.set_cons_zero, List.set_cons_succ])
                  refine wpAnyH_ready (rs := [11, 17]) (by kernel_rfl) (by simp) ?_
                  refine AllReadyH.cons rfl (fun K hK => ?_) (AllReadyH.cons rfl (fun K hK => ?_) AllReadyH.nil)
                  · go_simp
                    go_wp2_with fail
                    refine (KPr _ (HPR.out.below B1.out)).mono ?_
                    rintro e c2 ⟨rfl, hh⟩
                    have B2 := hide (B1.out.trans (hh.mono B1.out.size))
                    have A2 := hide (A1.out.below hh)
                    clear hh
                    go_wp2_with fail
                    refine hK.out _ _ ⟨(Below.cell B2.out (p := ⟨bl, off + k * 2, none⟩) lt0).trans hS0.out.1, (Below.cell B2.out (p := ⟨bl, off + k * 2 + 1, none⟩) lt0).trans hS0.out.2⟩ (fun hS => ?_)
                    clear hK K
                    (try simp only [Act.put, List.setIfInBounds_toArray, List.set_cons_zero, List.set_cons_succ])
                    refine take_at 12 (some 179) (v := ?_) rfl rfl (by kernel_rfl) (by kernel_rfl) (by kernel_rfl) (fun _ _ _ h => h) ⟨by rfl, ?_⟩ hS ?_
                    rotate_left
                    · intro wq hSw; go_simp; try rfl
                    simp only [Act.put, List.setIfInBounds_toArray, List.set_cons_zero, List.set_cons_succ]
                    refine take_at 13 (some 192) (v := ?_) rfl rfl (by kernel_rfl) (by kernel_rfl) (by kernel_rfl) (fun _ _ _ h => h) ⟨by rfl, ?_⟩ hS ?_
                    rotate_left
                    · intro wq hSw; go_simp; try rfl
                    simp only [Act.put, List.setIfInBounds_toArray, List.set_cons_zero, List.set_cons_succ]
                    refine take_at 14 (some 193) (v := ?_) rfl rfl (by kernel_rfl) (by kernel_rfl) (by kernel_rfl) (fun _ _ _ h => h) ⟨by rfl, ?_⟩ hS ?_
                    rotate_left
                    · intro wq hSw; go_simp; try rfl
                    simp only [Act.put, List.setIfInBounds_toArray, List.set_cons_zero, List.set_cons_succ]
                    refine take_at 15 (some 194) (v := ?_) rfl rfl (by kernel_rfl) (by kernel_rfl) (by kernel_rfl) (fun _ _ _ h => h) ⟨by rfl, ?_⟩ hS ?_
                    rotate_left
                    · intro wq hSw; go_simp; try rfl
                    simp only [Act.put, List.setIfInBounds_toArray, List.set_cons_zero, List.set_cons_succ]
                    clear B1
                    refine wpAnyH_ready (rs := [17]) (by kernel_rfl) (by simp) ?_
                    refine AllReadyH.cons rfl (fun K hK => ?_) AllReadyH.nil
                    go_simp
                    go_wp2_with fail
                    have hh := alloc_below c2 (.cells #[.int .i64 0, .int .i64 0] 30)
                    have B3 := hide (B2.out.trans (hh.mono B2.out.size))
                    have A3 := hide (A2.out.below hh)
                    have D3 := hide (Cells.new c2 #[.int .i64 0, .int .i64 0] 30)
                    refine hK.out _ _ ⟨(Below.cell B3.out (p := ⟨bl, off + k * 2, none⟩) lt0).trans hS0.out.1, (Below.cell B3.out (p := ⟨bl, off + k * 2 + 1, none⟩) lt0).trans hS0.out.2⟩ (fun hS => ?_)
                    clear hK K
                    refine named (P := wpAnyH _ _ _ _ _ _ _ _) ?_
                    intro c3 hcm
                    rw [← hcm] at B3 A3 D3
                    have hsz : c2.heap.size + 1 = c3.heap.size := by rw [hcm]; simp
                    obtain ⟨FB, hFB⟩ : ∃ F, F = c2.heap.size := ⟨_, rfl⟩
                    rw [← hFB] at D3 ⊢
                    have lab := hide (show x0.heap.size ≤ FA ∧ x0.heap.size ≤ FB ∧ FA ≠ FB by have := A2.out.1; have := B2.out.size; have := loFA.out; omega)
                    clear hh hcm hsz hFB
                    (try simp only [Act.put, List.setIfInBounds_toArray, List.set_cons_zero, List.set_cons_succ])
                    clear B2
                    obtain ⟨ra0, ra0f⟩ := A3.out.get 0 _ rfl
                    obtain ⟨ra1, ra1f⟩ := A3.out.get 1 _ rfl
                    obtain ⟨rb0, rb0f⟩ := D3.out.get 0 _ rfl
                    obtain ⟨rb1, rb1f⟩ := D3.out.get 1 _ rfl
                    have ku := ((Keep.refl (fun z => z = FA) c3).setCell (g := FA) (j := 0) (fun _ => rfl) (.int .i64 PW.1)).setCell (g := FA) (j := 1) (fun _ => rfl) (.int .i64 PW.2)
                    have kv := ((((Keep.refl (fun z => z = FA ∨ z = FB) c3).setCell (g := FA) (j := 0) (fun _ => .inl rfl) (.int .i64 PW.1)).setCell (g := FA) (j := 1) (fun _ => .inl rfl) (.int .i64 PW.2)).setCell (g := FB) (j := 0) (fun _ => .inr rfl) (.int .i64 PS.1)).setCell (g := FB) (j := 1) (fun _ => .inr rfl) (.int .i64 PS.2)
                    have bu := B3.out.trans (ku.below B3.out.size (fun z hz q => by have := lab.out; omega))
                    have bv := B3.out.trans (kv.below B3.out.size (fun z hz q => by have := lab.out; omega))
                    have ca := ((((A3.out.stored (j := 0) (by simp) (.int .i64 PW.1)).stored (j := 1) (by simp) (.int .i64 PW.2)).other (g := FB) (j := 0) (y := .int .i64 PS.1) (by have := lab.out; omega)).other (g := FB) (j := 1) (y := .int .i64 PS.2) (by have := lab.out; omega))
                    have cb := (((D3.out.other (g := FA) (j := 0) (y := .int .i64 PW.1) (by have := lab.out; omega)).other (g := FA) (j := 1) (y := .int .i64 PW.2) (by have := lab.out; omega)).stored (j := 0) (by simp) (.int .i64 PS.1)).stored (j := 1) (by simp) (.int .i64 PS.2)
                    have une : FA ≠ FB := by have := lab.out; omega
                    have une2 : FB ≠ FA := by have := lab.out; omega
                    refine wpAnyH_ready (rs := [18]) (by kernel_rfl) (by simp) ?_
                    refine AllReadyH.cons rfl (fun K hK => ?_) AllReadyH.nil
                    go_simp
                    go_wp2_with fail
                    refine hK.out _ _ ⟨(Below.cell bu (p := ⟨bl, off + k * 2, none⟩) lt0).trans hS0.out.1, (Below.cell bu (p := ⟨bl, off + k * 2 + 1, none⟩) lt0).trans hS0.out.2⟩ (fun hS => ?_)
                    clear hK K
                    (try simp only [Act.put, List.setIfInBounds_toArray, List.set_cons_zero, List.set_cons_succ])
                    refine wpAnyH_ready (rs := [19]) (by kernel_rfl) (by simp) ?_
                    refine AllReadyH.cons rfl (fun K hK => ?_) AllReadyH.nil
                    go_simp
                    go_wp2_with fail
                    refine hK.out _ _ ⟨(Below.cell bv (p := ⟨bl, off + k * 2, none⟩) lt0).trans hS0.out.1, (Below.cell bv (p := ⟨bl, off + k * 2 + 1, none⟩) lt0).trans hS0.out.2⟩ (fun hS => ?_)
                    clear hK K
                    (try simp only [Act.put, List.setIfInBounds_toArray, List.set_cons_zero, List.set_cons_succ])
                    refine take_at 20 (some 20) (v := ?_) rfl rfl (by kernel_rfl) (by kernel_rfl) (by kernel_rfl) (fun _ _ _ h => h) ⟨by rfl, ?_⟩ hS ?_
                    rotate_left
                    · intro wq hSw; go_simp; try rfl
                    simp only [Act.put, List.setIfInBounds_toArray, List.set_cons_zero, List.set_cons_succ]
                    refine wpAnyH_done (by kernel_rfl) ?_ _
                    go_wp2_with fail
                    go_meet
                    exact ⟨FA, FB, rfl, rfl, rfl, by simpa using ca, by simpa using cb, une, HX.out.1.trans (bv.mono (by have := HX.out.2; omega))⟩
                  · go_simp
                    go_wp2_with fail
                    have hh := alloc_below c1 (.cells #[.int .i64 0, .int .i64 0] 30)
                    have B2 := hide (B1.out.trans (hh.mono B1.out.size))
                    have A2 := hide (A1.out.below hh)
                    have D2 := hide (Cells.new c1 #[.int .i64 0, .int .i64 0] 30)
                    refine hK.out _ _ ⟨(Below.cell B2.out (p := ⟨bl, off + k * 2, none⟩) lt0).trans hS0.out.1, (Below.cell B2.out (p := ⟨bl, off + k * 2 + 1, none⟩) lt0).trans hS0.out.2⟩ (fun hS => ?_)
                    clear hK K
                    refine named (P := wpAnyH _ _ _ _ _ _ _ _) ?_
                    intro c2 hcm
                    rw [← hcm] at B2 A2 D2
                    have hsz : c1.heap.size + 1 = c2.heap.size := by rw [hcm]; simp
                    obtain ⟨FB, hFB⟩ : ∃ F, F = c1.heap.size := ⟨_, rfl⟩
                    rw [← hFB] at D2 ⊢
                    have lab := hide (show x0.heap.size ≤ FA ∧ x0.heap.size ≤ FB ∧ FA ≠ FB by have := A1.out.1; have := B1.out.size; have := loFA.out; omega)
                    clear hh hcm hsz hFB
                    (try simp only [Act.put, List.setIfInBounds_toArray, List.set_cons_zero, List.set_cons_succ])
                    clear B1
                    refine wpAnyH_ready (rs := [11]) (by kernel_rfl) (by simp) ?_
                    refine AllReadyH.cons rfl (fun K hK => ?_) AllReadyH.nil
                    go_simp
                    go_wp2_with fail
                    refine (KPr _ (HPR.out.below B2.out)).mono ?_
                    rintro e c3 ⟨rfl, hh⟩
                    have B3 := hide (B2.out.trans (hh.mono B2.out.size))
                    have A3 := hide (A2.out.below hh)
                    have D3 := hide (D2.out.below hh)
                    clear hh
                    go_wp2_with fail
                    refine hK.out _ _ ⟨(Below.cell B3.out (p := ⟨bl, off + k * 2, none⟩) lt0).trans hS0.out.1, (Below.cell B3.out (p := ⟨bl, off + k * 2 + 1, none⟩) lt0).trans hS0.out.2⟩ (fun hS => ?_)
                    clear hK K
                    (try simp only [Act.put, List.setIfInBounds_toArray, List.set_cons_zero, List.set_cons_succ])
                    refine take_at 12 (some 179) (v := ?_) rfl rfl (by kernel_rfl) (by kernel_rfl) (by kernel_rfl) (fun _ _ _ h => h) ⟨by rfl, ?_⟩ hS ?_
                    rotate_left
                    · intro wq hSw; go_simp; try rfl
                    simp only [Act.put, List.setIfInBounds_toArray, List.set_cons_zero, List.set_cons_succ]
                    refine take_at 13 (some 192) (v := ?_) rfl rfl (by kernel_rfl) (by kernel_rfl) (by kernel_rfl) (fun _ _ _ h => h) ⟨by rfl, ?_⟩ hS ?_
                    rotate_left
                    · intro wq hSw; go_simp; try rfl
                    simp only [Act.put, List.setIfInBounds_toArray, List.set_cons_zero, List.set_cons_succ]
                    refine take_at 14 (some 193) (v := ?_) rfl rfl (by kernel_rfl) (by kernel_rfl) (by kernel_rfl) (fun _ _ _ h => h) ⟨by rfl, ?_⟩ hS ?_
                    rotate_left
                    · intro wq hSw; go_simp; try rfl
                    simp only [Act.put, List.setIfInBounds_toArray, List.set_cons_zero, List.set_cons_succ]
                    refine take_at 15 (some 194) (v := ?_) rfl rfl (by kernel_rfl) (by kernel_rfl) (by kernel_rfl) (fun _ _ _ h => h) ⟨by rfl, ?_⟩ hS ?_
                    rotate_left
                    · intro wq hSw; go_simp; try rfl
                    simp only [Act.put, List.setIfInBounds_toArray, List.set_cons_zero, List.set_cons_succ]
                    clear B2
                    obtain ⟨ra0, ra0f⟩ := A3.out.get 0 _ rfl
                    obtain ⟨ra1, ra1f⟩ := A3.out.get 1 _ rfl
                    obtain ⟨rb0, rb0f⟩ := D3.out.get 0 _ rfl
                    obtain ⟨rb1, rb1f⟩ := D3.out.get 1 _ rfl
                    have ku := ((Keep.refl (fun z => z = FA) c3).setCell (g := FA) (j := 0) (fun _ => rfl) (.int .i64 PW.1)).setCell (g := FA) (j := 1) (fun _ => rfl) (.int .i64 PW.2)
                    have kv := ((((Keep.refl (fun z => z = FA ∨ z = FB) c3).setCell (g := FA) (j := 0) (fun _ => .inl rfl) (.int .i64 PW.1)).setCell (g := FA) (j := 1) (fun _ => .inl rfl) (.int .i64 PW.2)).setCell (g := FB) (j := 0) (fun _ => .inr rfl) (.int .i64 PS.1)).setCell (g := FB) (j := 1) (fun _ => .inr rfl) (.int .i64 PS.2)
                    have bu := B3.out.trans (ku.below B3.out.size (fun z hz q => by have := lab.out; omega))
                    have bv := B3.out.trans (kv.below B3.out.size (fun z hz q => by have := lab.out; omega))
                    have ca := ((((A3.out.stored (j := 0) (by simp) (.int .i64 PW.1)).stored (j := 1) (by simp) (.int .i64 PW.2)).other (g := FB) (j := 0) (y := .int .i64 PS.1) (by have := lab.out; omega)).other (g := FB) (j := 1) (y := .int .i64 PS.2) (by have := lab.out; omega))
                    have cb := (((D3.out.other (g := FA) (j := 0) (y := .int .i64 PW.1) (by have := lab.out; omega)).other (g := FA) (j := 1) (y := .int .i64 PW.2) (by have := lab.out; omega)).stored (j := 0) (by simp) (.int .i64 PS.1)).stored (j := 1) (by simp) (.int .i64 PS.2)
                    have une : FA ≠ FB := by have := lab.out; omega
                    have une2 : FB ≠ FA := by have := lab.out; omega
                    refine wpAnyH_ready (rs := [18]) (by kernel_rfl) (by simp) ?_
                    refine AllReadyH.cons rfl (fun K hK => ?_) AllReadyH.nil
                    go_simp
                    go_wp2_with fail
                    refine hK.out _ _ ⟨(Below.cell bu (p := ⟨bl, off + k * 2, none⟩) lt0).trans hS0.out.1, (Below.cell bu (p := ⟨bl, off + k * 2 + 1, none⟩) lt0).trans hS0.out.2⟩ (fun hS => ?_)
                    clear hK K
                    (try simp only [Act.put, List.setIfInBounds_toArray, List.set_cons_zero, List.set_cons_succ])
                    refine wpAnyH_ready (rs := [19]) (by kernel_rfl) (by simp) ?_
                    refine AllReadyH.cons rfl (fun K hK => ?_) AllReadyH.nil
                    go_simp
                    go_wp2_with fail
                    refine hK.out _ _ ⟨(Below.cell bv (p := ⟨bl, off + k * 2, none⟩) lt0).trans hS0.out.1, (Below.cell bv (p := ⟨bl, off + k * 2 + 1, none⟩) lt0).trans hS0.out.2⟩ (fun hS => ?_)
                    clear hK K
                    (try simp only [Act.put, List.setIfInBounds_toArray, List.set_cons_zero, List.set_cons_succ])
                    refine take_at 20 (some 20) (v := ?_) rfl rfl (by kernel_rfl) (by kernel_rfl) (by kernel_rfl) (fun _ _ _ h => h) ⟨by rfl, ?_⟩ hS ?_
                    rotate_left
                    · intro wq hSw; go_simp; try rfl
                    simp only [Act.put, List.setIfInBounds_toArray, List.set_cons_zero, List.set_cons_succ]
                    refine wpAnyH_done (by kernel_rfl) ?_ _
                    go_wp2_with fail
                    go_meet
                    exact ⟨FA, FB, rfl, rfl, rfl, by simpa using ca, by simpa using cb, une, HX.out.1.trans (bv.mono (by have := HX.out.2; omega))⟩
                · go_simp
                  go_wp2_with fail
                  have hh := alloc_below x0 (.cells #[.int .i64 0, .int .i64 0] 30)
                  have B1 := hide (B0.out.trans (hh.mono B0.out.size))
                  have D1 := hide (Cells.new x0 #[.int .i64 0, .int .i64 0] 30)
                  refine hK.out _ _ ⟨(Below.cell B1.out (p := ⟨bl, off + k * 2, none⟩) lt0).trans hS0.out.1, (Below.cell B1.out (p := ⟨bl, off + k * 2 + 1, none⟩) lt0).trans hS0.out.2⟩ (fun hS => ?_)
                  clear hK K
                  refine named (P := wpAnyH _ _ _ _ _ _ _ _) ?_
                  intro c1 hcm
                  rw [← hcm] at B1 D1
                  have hsz : x0.heap.size + 1 = c1.heap.size := by rw [hcm]; simp
                  obtain ⟨FB, hFB⟩ : ∃ F, F = x0.heap.size := ⟨_, rfl⟩
                  rw [← hFB] at D1 ⊢
                  have loFB := hide (show x0.heap.size ≤ FB by have := B0.out.size; omega)
                  clear hh hcm hsz hFB
                  (try simp only [Act.put, List.setIfInBounds_toArray, List.set_cons_zero, List.set_cons_succ])
                  refine wpAnyH_ready (rs := [11, 16]) (by kernel_rfl) (by simp) ?_
                  refine AllReadyH.cons rfl (fun K hK => ?_) (AllReadyH.cons rfl (fun K hK => ?_) AllReadyH.nil)
                  · go_simp
                    go_wp2_with fail
                    refine (KPr _ (HPR.out.below B1.out)).mono ?_
                    rintro e c2 ⟨rfl, hh⟩
                    have B2 := hide (B1.out.trans (hh.mono B1.out.size))
                    have D2 := hide (D1.out.below hh)
                    clear hh
                    go_wp2_with fail
                    refine hK.out _ _ ⟨(Below.cell B2.out (p := ⟨bl, off + k * 2, none⟩) lt0).trans hS0.out.1, (Below.cell B2.out (p := ⟨bl, off + k * 2 + 1, none⟩) lt0).trans hS0.out.2⟩ (fun hS => ?_)
                    clear hK K
                    (try simp only [Act.put, List.setIfInBounds_toArray, List.set_cons_zero, List.set_cons_succ])
                    refine take_at 12 (some 179) (v := ?_) rfl rfl (by kernel_rfl) (by kernel_rfl) (by kernel_rfl) (fun _ _ _ h => h) ⟨by rfl, ?_⟩ hS ?_
                    rotate_left
                    · intro wq hSw; go_simp; try rfl
                    simp only [Act.put, List.setIfInBounds_toArray, List.set_cons_zero, List.set_cons_succ]
                    refine take_at 13 (some 192) (v := ?_) rfl rfl (by kernel_rfl) (by kernel_rfl) (by kernel_rfl) (fun _ _ _ h => h) ⟨by rfl, ?_⟩ hS ?_
                    rotate_left
                    · intro wq hSw; go_simp; try rfl
                    simp only [Act.put, List.setIfInBounds_toArray, List.set_cons_zero, List.set_cons_succ]
                    refine take_at 14 (some 193) (v := ?_) rfl rfl (by kernel_rfl) (by kernel_rfl) (by kernel_rfl) (fun _ _ _ h => h) ⟨by rfl, ?_⟩ hS ?_
                    rotate_left
                    · intro wq hSw; go_simp; try rfl
                    simp only [Act.put, List.setIfInBounds_toArray, List.set_cons_zero, List.set_cons_succ]
                    refine take_at 15 (some 194) (v := ?_) rfl rfl (by kernel_rfl) (by kernel_rfl) (by kernel_rfl) (fun _ _ _ h => h) ⟨by rfl, ?_⟩ hS ?_
                    rotate_left
                    · intro wq hSw; go_simp; try rfl
                    simp only [Act.put, List.setIfInBounds_toArray, List.set_cons_zero, List.set_cons_succ]
                    clear B1
                    refine wpAnyH_ready (rs := [16]) (by kernel_rfl) (by simp) ?_
                    refine AllReadyH.cons rfl (fun K hK => ?_) AllReadyH.nil
                    go_simp
                    go_wp2_with fail
                    have hh := alloc_below c2 (.cells #[.int .i64 0, .int .i64 0] 30)
                    have B3 := hide (B2.out.trans (hh.mono B2.out.size))
                    have D3 := hide (D2.out.below hh)
                    have A3 := hide (Cells.new c2 #[.int .i64 0, .int .i64 0] 30)
                    refine hK.out _ _ ⟨(Below.cell B3.out (p := ⟨bl, off + k * 2, none⟩) lt0).trans hS0.out.1, (Below.cell B3.out (p := ⟨bl, off + k * 2 + 1, none⟩) lt0).trans hS0.out.2⟩ (fun hS => ?_)
                    clear hK K
                    refine named (P := wpAnyH _ _ _ _ _ _ _ _) ?_
                    intro c3 hcm
                    rw [← hcm] at B3 A3 D3
                    have hsz : c2.heap.size + 1 = c3.heap.size := by rw [hcm]; simp
                    obtain ⟨FA, hFA⟩ : ∃ F, F = c2.heap.size := ⟨_, rfl⟩
                    rw [← hFA] at A3 ⊢
                    have lab := hide (show x0.heap.size ≤ FA ∧ x0.heap.size ≤ FB ∧ FA ≠ FB by have := D2.out.1; have := B2.out.size; have := loFB.out; omega)
                    clear hh hcm hsz hFA
                    (try simp only [Act.put, List.setIfInBounds_toArray, List.set_cons_zero, List.set_cons_succ])
                    clear B2
                    obtain ⟨ra0, ra0f⟩ := A3.out.get 0 _ rfl
                    obtain ⟨ra1, ra1f⟩ := A3.out.get 1 _ rfl
                    obtain ⟨rb0, rb0f⟩ := D3.out.get 0 _ rfl
                    obtain ⟨rb1, rb1f⟩ := D3.out.get 1 _ rfl
                    have ku := ((Keep.refl (fun z => z = FA) c3).setCell (g := FA) (j := 0) (fun _ => rfl) (.int .i64 PW.1)).setCell (g := FA) (j := 1) (fun _ => rfl) (.int .i64 PW.2)
                    have kv := ((((Keep.refl (fun z => z = FA ∨ z = FB) c3).setCell (g := FA) (j := 0) (fun _ => .inl rfl) (.int .i64 PW.1)).setCell (g := FA) (j := 1) (fun _ => .inl rfl) (.int .i64 PW.2)).setCell (g := FB) (j := 0) (fun _ => .inr rfl) (.int .i64 PS.1)).setCell (g := FB) (j := 1) (fun _ => .inr rfl) (.int .i64 PS.2)
                    have bu := B3.out.trans (ku.below B3.out.size (fun z hz q => by have := lab.out; omega))
                    have bv := B3.out.trans (kv.below B3.out.size (fun z hz q => by have := lab.out; omega))
                    have ca := ((((A3.out.stored (j := 0) (by simp) (.int .i64 PW.1)).stored (j := 1) (by simp) (.int .i64 PW.2)).other (g := FB) (j := 0) (y := .int .i64 PS.1) (by have := lab.out; omega)).other (g := FB) (j := 1) (y := .int .i64 PS.2) (by have := lab.out; omega))
                    have cb := (((D3.out.other (g := FA) (j := 0) (y := .int .i64 PW.1) (by have := lab.out; omega)).other (g := FA) (j := 1) (y := .int .i64 PW.2) (by have := lab.out; omega)).stored (j := 0) (by simp) (.int .i64 PS.1)).stored (j := 1) (by simp) (.int .i64 PS.2)
                    have une : FA ≠ FB := by have := lab.out; omega
                    have une2 : FB ≠ FA := by have := lab.out; omega
                    refine wpAnyH_ready (rs := [18]) (by kernel_rfl) (by simp) ?_
                    refine AllReadyH.cons rfl (fun K hK => ?_) AllReadyH.nil
                    go_simp
                    go_wp2_with fail
                    refine hK.out _ _ ⟨(Below.cell bu (p := ⟨bl, off + k * 2, none⟩) lt0).trans hS0.out.1, (Below.cell bu (p := ⟨bl, off + k * 2 + 1, none⟩) lt0).trans hS0.out.2⟩ (fun hS => ?_)
                    clear hK K
                    (try simp only [Act.put, List.setIfInBounds_toArray, List.set_cons_zero, List.set_cons_succ])
                    refine wpAnyH_ready (rs := [19]) (by kernel_rfl) (by simp) ?_
                    refine AllReadyH.cons rfl (fun K hK => ?_) AllReadyH.nil
                    go_simp
                    go_wp2_with fail
                    refine hK.out _ _ ⟨(Below.cell bv (p := ⟨bl, off + k * 2, none⟩) lt0).trans hS0.out.1, (Below.cell bv (p := ⟨bl, off + k * 2 + 1, none⟩) lt0).trans hS0.out.2⟩ (fun hS => ?_)
                    clear hK K
                    (try simp only [Act.put, List.setIfInBounds_toArray, List.set_cons_zero, List.set_cons_succ])
                    refine take_at 20 (some 20) (v := ?_) rfl rfl (by kernel_rfl) (by kernel_rfl) (by kernel_rfl) (fun _ _ _ h => h) ⟨by rfl, ?_⟩ hS ?_
                    rotate_left
                    · intro wq hSw; go_simp; try rfl
                    simp only [Act.put, List.setIfInBounds_toArray, List.set_cons_zero, List.set_cons_succ]
                    refine wpAnyH_done (by kernel_rfl) ?_ _
                    go_wp2_with fail
                    go_meet
                    exact ⟨FA, FB, rfl, rfl, rfl, by simpa using ca, by simpa using cb, une, HX.out.1.trans (bv.mono (by have := HX.out.2; omega))⟩
                  · go_simp
                    go_wp2_with fail
                    have hh := alloc_below c1 (.cells #[.int .i64 0, .int .i64 0] 30)
                    have B2 := hide (B1.out.trans (hh.mono B1.out.size))
                    have D2 := hide (D1.out.below hh)
                    have A2 := hide (Cells.new c1 #[.int .i64 0, .int .i64 0] 30)
                    refine hK.out _ _ ⟨(Below.cell B2.out (p := ⟨bl, off + k * 2, none⟩) lt0).trans hS0.out.1, (Below.cell B2.out (p := ⟨bl, off + k * 2 + 1, none⟩) lt0).trans hS0.out.2⟩ (fun hS => ?_)
                    clear hK K
                    refine named (P := wpAnyH _ _ _ _ _ _ _ _) ?_
                    intro c2 hcm
                    rw [← hcm] at B2 A2 D2
                    have hsz : c1.heap.size + 1 = c2.heap.size := by rw [hcm]; simp
                    obtain ⟨FA, hFA⟩ : ∃ F, F = c1.heap.size := ⟨_, rfl⟩
                    rw [← hFA] at A2 ⊢
                    have lab := hide (show x0.heap.size ≤ FA ∧ x0.heap.size ≤ FB ∧ FA ≠ FB by have := D1.out.1; have := B1.out.size; have := loFB.out; omega)
                    clear hh hcm hsz hFA
                    (try simp only [Act.put, List.setIfInBounds_toArray, List.set_cons_zero, List.set_cons_succ])
                    clear B1
                    refine wpAnyH_ready (rs := [11]) (by kernel_rfl) (by simp) ?_
                    refine AllReadyH.cons rfl (fun K hK => ?_) AllReadyH.nil
                    go_simp
                    go_wp2_with fail
                    refine (KPr _ (HPR.out.below B2.out)).mono ?_
                    rintro e c3 ⟨rfl, hh⟩
                    have B3 := hide (B2.out.trans (hh.mono B2.out.size))
                    have A3 := hide (A2.out.below hh)
                    have D3 := hide (D2.out.below hh)
                    clear hh
                    go_wp2_with fail
                    refine hK.out _ _ ⟨(Below.cell B3.out (p := ⟨bl, off + k * 2, none⟩) lt0).trans hS0.out.1, (Below.cell B3.out (p := ⟨bl, off + k * 2 + 1, none⟩) lt0).trans hS0.out.2⟩ (fun hS => ?_)
                    clear hK K
                    (try simp only [Act.put, List.setIfInBounds_toArray, List.set_cons_zero, List.set_cons_succ])
                    refine take_at 12 (some 179) (v := ?_) rfl rfl (by kernel_rfl) (by kernel_rfl) (by kernel_rfl) (fun _ _ _ h => h) ⟨by rfl, ?_⟩ hS ?_
                    rotate_left
                    · intro wq hSw; go_simp; try rfl
                    simp only [Act.put, List.setIfInBounds_toArray, List.set_cons_zero, List.set_cons_succ]
                    refine take_at 13 (some 192) (v := ?_) rfl rfl (by kernel_rfl) (by kernel_rfl) (by kernel_rfl) (fun _ _ _ h => h) ⟨by rfl, ?_⟩ hS ?_
                    rotate_left
                    · intro wq hSw; go_simp; try rfl
                    simp only [Act.put, List.setIfInBounds_toArray, List.set_cons_zero, List.set_cons_succ]
                    refine take_at 14 (some 193) (v := ?_) rfl rfl (by kernel_rfl) (by kernel_rfl) (by kernel_rfl) (fun _ _ _ h => h) ⟨by rfl, ?_⟩ hS ?_
                    rotate_left
                    · intro wq hSw; go_simp; try rfl
                    simp only [Act.put, List.setIfInBounds_toArray, List.set_cons_zero, List.set_cons_succ]
                    refine take_at 15 (some 194) (v := ?_) rfl rfl (by kernel_rfl) (by kernel_rfl) (by kernel_rfl) (fun _ _ _ h => h) ⟨by rfl, ?_⟩ hS ?_
                    rotate_left
                    · intro wq hSw; go_simp; try rfl
                    simp only [Act.put, List.setIfInBounds_toArray, List.set_cons_zero, List.set_cons_succ]
                    clear B2
                    obtain ⟨ra0, ra0f⟩ := A3.out.get 0 _ rfl
                    obtain ⟨ra1, ra1f⟩ := A3.out.get 1 _ rfl
                    obtain ⟨rb0, rb0f⟩ := D3.out.get 0 _ rfl
                    obtain ⟨rb1, rb1f⟩ := D3.out.get 1 _ rfl
                    have ku := ((Keep.refl (fun z => z = FA) c3).setCell (g := FA) (j := 0) (fun _ => rfl) (.int .i64 PW.1)).setCell (g := FA) (j := 1) (fun _ => rfl) (.int .i64 PW.2)
                    have kv := ((((Keep.refl (fun z => z = FA ∨ z = FB) c3).setCell (g := FA) (j := 0) (fun _ => .inl rfl) (.int .i64 PW.1)).setCell (g := FA) (j := 1) (fun _ => .inl rfl) (.int .i64 PW.2)).setCell (g := FB) (j := 0) (fun _ => .inr rfl) (.int .i64 PS.1)).setCell (g := FB) (j := 1) (fun _ => .inr rfl) (.int .i64 PS.2)
                    have bu := B3.out.trans (ku.below B3.out.size (fun z hz q => by have := lab.out; omega))
                    have bv := B3.out.trans (kv.below B3.out.size (fun z hz q => by have := lab.out; omega))
                    have ca := ((((A3.out.stored (j := 0) (by simp) (.int .i64 PW.1)).stored (j := 1) (by simp) (.int .i64 PW.2)).other (g := FB) (j := 0) (y := .int .i64 PS.1) (by have := lab.out; omega)).other (g := FB) (j := 1) (y := .int .i64 PS.2) (by have := lab.out; omega))
                    have cb := (((D3.out.other (g := FA) (j := 0) (y := .int .i64 PW.1) (by have := lab.out; omega)).other (g := FA) (j := 1) (y := .int .i64 PW.2) (by have := lab.out; omega)).stored (j := 0) (by simp) (.int .i64 PS.1)).stored (j := 1) (by simp) (.int .i64 PS.2)
                    have une : FA ≠ FB := by have := lab.out; omega
                    have une2 : FB ≠ FA := by have := lab.out; omega
                    refine wpAnyH_ready (rs := [18]) (by kernel_rfl) (by simp) ?_
                    refine AllReadyH.cons rfl (fun K hK => ?_) AllReadyH.nil
                    go_simp
                    go_wp2_with fail
                    refine hK.out _ _ ⟨(Below.cell bu (p := ⟨bl, off + k * 2, none⟩) lt0).trans hS0.out.1, (Below.cell bu (p := ⟨bl, off + k * 2 + 1, none⟩) lt0).trans hS0.out.2⟩ (fun hS => ?_)
                    clear hK K
                    (try simp only [Act.put, List.setIfInBounds_toArray, List.set_cons_zero, List.set_cons_succ])
                    refine wpAnyH_ready (rs := [19]) (by kernel_rfl) (by simp) ?_
                    refine AllReadyH.cons rfl (fun K hK => ?_) AllReadyH.nil
                    go_simp
                    go_wp2_with fail
                    refine hK.out _ _ ⟨(Below.cell bv (p := ⟨bl, off + k * 2, none⟩) lt0).trans hS0.out.1, (Below.cell bv (p := ⟨bl, off + k * 2 + 1, none⟩) lt0).trans hS0.out.2⟩ (fun hS => ?_)
                    clear hK K
                    (try simp only [Act.put, List.setIfInBounds_toArray, List.set_cons_zero, List.set_cons_succ])
                    refine take_at 20 (some 20) (v := ?_) rfl rfl (by kernel_rfl) (by kernel_rfl) (by kernel_rfl) (fun _ _ _ h => h) ⟨by rfl, ?_⟩ hS ?_
                    rotate_left
                    · intro wq hSw; go_simp; try rfl
                    simp only [Act.put, List.setIfInBounds_toArray, List.set_cons_zero, List.set_cons_succ]
                    refine wpAnyH_done (by kernel_rfl) ?_ _
                    go_wp2_with fail
                    go_meet
                    exact ⟨FA, FB, rfl, rfl, rfl, by simpa using ca, by simpa using cb, une, HX.out.1.trans (bv.mono (by have := HX.out.2; omega))⟩
            case rest =>
              obtain ⟨t18, t19, rfl, rfl, rfl, D1, D2, dn, b1⟩ := hcut
              have PA1 := hide (PA.out.below b1)
              have PB1 := hide (PB.out.below b1)
              have HB1 := hide (HB.out.trans (b1.mono HB.out.size))
              have y0 := (b1.cell (p := ⟨bl, off + k * 2, none⟩) hbl2).trans y0
              have y1 := (b1.cell (p := ⟨bl, off + k * 2 + 1, none⟩) hbl2).trans y1
              have hbl2 := Nat.lt_of_lt_of_le hbl2 b1.size
              have E1 := hide D1
              have E2 := hide D2
              clear D1 D2 dn b1 PA PB HB KPr
              go_upto_region 19 with fail
              go_cut [21, 22, 23] from 195 to 210 (fun v1 v2 v3 w' => ∃ FA FB, v1 = ptr FA ∧ v2 = ptr FB ∧ v3 = .int .i64 PE ∧ Cells w' FA [.int .i64 PW.1, .int .i64 PW.2] ∧ Cells w' FB [.int .i64 PS.1, .int .i64 PS.2] ∧ FA ≠ FB ∧ Below wc.heap.size wc w')
              case first =>
                refine wp_region_held_drew (S := fun wq => wq.cell? ⟨bl, off + k * 2, none⟩ = some (.int .i64 y.1) ∧ wq.cell? ⟨bl, off + k * 2 + 1, none⟩ = some (.int .i64 y.2)) (by kernel_rfl) ⟨y0, y1⟩ (fun hS => ?_)
                have HX := hide (show Below wc.heap.size wc wc.drew ∧ wc.heap.size ≤ wc.drew.heap.size from ⟨(Below.refl _ _).drew, Nat.le_refl _⟩)
                have HPR := hide (PB1.out.below (Below.refl _ _).drew)
                have lt0 : bl < wc.drew.heap.size := hbl2
                have hS0 := hide hS
                clear PA1 PB1 HB1 y0 y1 hbl2 KFr KFq E1 E2
                generalize wc.drew = x0 at *
                have B0 := hide (Below.refl x0.heap.size x0)
                as_aux_lemma =>
                  refine take_at 0 (some 196) (v := ?_) rfl rfl (by kernel_rfl) (by kernel_rfl) (by kernel_rfl) (fun _ _ _ h => h) ⟨by rfl, ?_⟩ hS ?_
                  rotate_left
                  · intro wq hSw; go_simp; try rfl
                  simp only [Act.put, List.setIfInBounds_toArray, List.set_cons_zero, List.set_cons_succ]
                  refine take_at 1 (some 197) (v := ?_) rfl rfl (by kernel_rfl) (by kernel_rfl) (by kernel_rfl) (fun _ _ _ h => h) ⟨by rfl, ?_⟩ hS ?_
                  rotate_left
                  · intro wq hSw; go_simp; try rfl
                  simp only [Act.put, List.setIfInBounds_toArray, List.set_cons_zero, List.set_cons_succ]
                  refine take_at 2 (some 198) (v := ?_) rfl rfl (by kernel_rfl) (by kernel_rfl) (by kernel_rfl) (fun _ _ _ h => h) ⟨by rfl, ?_⟩ hS ?_
                  rotate_left
                  · intro wq hSw; go_simp; try rfl
                  simp only [Act.put, List.setIfInBounds_toArray, List.set_cons_zero, List.set_cons_succ]
                  refine take_at 3 (some 199) (v := ?_) rfl rfl (by kernel_rfl) (by kernel_rfl) (by kernel_rfl) (fun _ _ _ h => h) ⟨by rfl, ?_⟩ hS ?_
                  rotate_left
                  · intro wq hSw; go_simp; try rfl
                  simp only [Act.put, List.setIfInBounds_toArray, List.set_cons_zero, List.set_cons_succ]
                  refine take_at 4 (some 200) (v := ?_) rfl rfl (by kernel_rfl) (by kernel_rfl) (by kernel_rfl) (fun _ _ _ h => h) ⟨by rfl, ?_⟩ hS ?_
                  rotate_left
                  · intro wq hSw; go_simp; try rfl
                  simp only [Act.put, List.setIfInBounds_toArray, List.set_cons_zero, List.set_cons_succ]
                  refine take_at 5 (some 201) (v := ?_) rfl rfl (by kernel_rfl) (by kernel_rfl) (by kernel_rfl) (fun _ _ _ h => h) ⟨by rfl, ?_⟩ hS ?_
                  rotate_left
                  · intro wq hSw; obtain ⟨s0, s1⟩ := hSw; go_simp; try rfl
                  simp only [Act.put, List.setIfInBounds_toArray, List.set_cons_zero, List.set_cons_succ]
                  refine take_at 6 (some 202) (v := ?_) rfl rfl (by kernel_rfl) (by kernel_rfl) (by kernel_rfl) (fun _ _ _ h => h) ⟨by rfl, ?_⟩ hS ?_
                  rotate_left
                  · intro wq hSw; go_simp; try rfl
                  simp only [Act.put, List.setIfInBounds_toArray, List.set_cons_zero, List.set_cons_succ]
                  refine take_at 7 (some 203) (v := ?_) rfl rfl (by kernel_rfl) (by kernel_rfl) (by kernel_rfl) (fun _ _ _ h => h) ⟨by rfl, ?_⟩ hS ?_
                  rotate_left
                  · intro wq hSw; go_simp; try rfl
                  simp only [Act.put, List.setIfInBounds_toArray, List.set_cons_zero, List.set_cons_succ]
                  refine take_at 8 (some 204) (v := ?_) rfl rfl (by kernel_rfl) (by kernel_rfl) (by kernel_rfl) (fun _ _ _ h => h) ⟨by rfl, ?_⟩ hS ?_
                  rotate_left
                  · intro wq hSw; go_simp; try rfl
                  simp only [Act.put, List.setIfInBounds_toArray, List.set_cons_zero, List.set_cons_succ]
                  refine take_at 9 (some 205) (v := ?_) rfl rfl (by kernel_rfl) (by kernel_rfl) (by kernel_rfl) (fun _ _ _ h => h) ⟨by rfl, ?_⟩ hS ?_
                  rotate_left
                  · intro wq hSw; go_simp; try rfl
                  simp only [Act.put, List.setIfInBounds_toArray, List.set_cons_zero, List.set_cons_succ]
                  refine take_at 10 (some 206) (v := ?_) rfl rfl (by kernel_rfl) (by kernel_rfl) (by kernel_rfl) (fun _ _ _ h => h) ⟨by rfl, ?_⟩ hS ?_
                  rotate_left
                  · intro wq hSw; obtain ⟨s0, s1⟩ := hSw; go_simp; try rfl
                  simp only [Act.put, List.setIfInBounds_toArray, List.set_cons_zero, List.set_cons_succ]
                  refine wpAnyH_ready (rs := [11, 16, 17]) (by kernel_rfl) (by simp) ?_
                  refine AllReadyH.cons rfl (fun K hK => ?_) (AllReadyH.cons rfl (fun K hK => ?_) (AllReadyH.cons rfl (fun K hK => ?_) AllReadyH.nil))
                  · go_simp
                    go_wp2_with fail
                    refine (KPq _ (HPR.out.below B0.out)).mono ?_
                    rintro e c1 ⟨rfl, hh⟩
                    have B1 := hide (B0.out.trans (hh.mono B0.out.size))
                    clear hh
                    go_wp2_with fail
                    refine hK.out _ _ ⟨(Below.cell B1.out (p := ⟨bl, off + k * 2, none⟩) lt0).trans hS0.out.1, (Below.cell B1.out (p := ⟨bl, off + k * 2 + 1, none⟩) lt0).trans hS0.out.2⟩ (fun hS => ?_)
                    clear hK K
                    (try simp only [Act.put, List.setIfInBounds_toArray, List.set_cons_zero, List.set_cons_succ])
                    refine take_at 12 (some 195) (v := ?_) rfl rfl (by kernel_rfl) (by kernel_rfl) (by kernel_rfl) (fun _ _ _ h => h) ⟨by rfl, ?_⟩ hS ?_
                    rotate_left
                    · intro wq hSw; go_simp; try rfl
                    simp only [Act.put, List.setIfInBounds_toArray, List.set_cons_zero, List.set_cons_succ]
                    refine take_at 13 (some 208) (v := ?_) rfl rfl (by kernel_rfl) (by kernel_rfl) (by kernel_rfl) (fun _ _ _ h => h) ⟨by rfl, ?_⟩ hS ?_
                    rotate_left
                    · intro wq hSw; go_simp; try rfl
                    simp only [Act.put, List.setIfInBounds_toArray, List.set_cons_zero, List.set_cons_succ]
                    refine take_at 14 (some 209) (v := ?_) rfl rfl (by kernel_rfl) (by kernel_rfl) (by kernel_rfl) (fun _ _ _ h => h) ⟨by rfl, ?_⟩ hS ?_
                    rotate_left
                    · intro wq hSw; go_simp; try rfl
                    simp only [Act.put, List.setIfInBounds_toArray, List.set_cons_zero, List.set_cons_succ]
                    refine take_at 15 (some 210) (v := ?_) rfl rfl (by kernel_rfl) (by kernel_rfl) (by kernel_rfl) (fun _ _ _ h => h) ⟨by rfl, ?_⟩ hS ?_
                    rotate_left
                    · intro wq hSw; go_simp; try rfl
                    simp only [Act.put, List.setIfInBounds_toArray, List.set_cons_zero, List.set_cons_succ]
                    refine wpAnyH_ready (rs := [16, 17]) (by kernel_rfl) (by simp) ?_
                    refine AllReadyH.cons rfl (fun K hK => ?_) (AllReadyH.cons rfl (fun K hK => ?_) AllReadyH.nil)
                    · go_simp
                      go_wp2_with fail
                      have hh := alloc_below c1 (.cells #[.int .i64 0, .int .i64 0] 30)
                      have B2 := hide (B1.out.trans (hh.mono B1.out.size))
                      have A2 := hide (Cells.new c1 #[.int .i64 0, .int .i64 0] 30)
                      refine hK.out _ _ ⟨(Below.cell B2.out (p := ⟨bl, off + k * 2, none⟩) lt0).trans hS0.out.1, (Below.cell B2.out (p := ⟨bl, off + k * 2 + 1, none⟩) lt0).trans hS0.out.2⟩ (fun hS => ?_)
                      clear hK K
                      refine named (P := wpAnyH _ _ _ _ _ _ _ _) ?_
                      intro c2 hcm
                      rw [← hcm] at B2 A2
                      have hsz : c1.heap.size + 1 = c2.heap.size := by rw [hcm]; simp
                      obtain ⟨FA, hFA⟩ : ∃ F, F = c1.heap.size := ⟨_, rfl⟩
                      rw [← hFA] at A2 ⊢
                      have loFA := hide (show x0.heap.size ≤ FA by have := B1.out.size; omega)
                      clear hh hcm hsz hFA
                      (try simp only [Act.put, List.setIfInBounds_toArray, List.set_cons_zero, List.set_cons_succ])
                      clear B1
                      refine wpAnyH_ready (rs := [17]) (by kernel_rfl) (by simp) ?_
                      refine AllReadyH.cons rfl (fun K hK => ?_) AllReadyH.nil
                      go_simp
                      go_wp2_with fail
                      have hh := alloc_below c2 (.cells #[.int .i64 0, .int .i64 0] 30)
                      have B3 := hide (B2.out.trans (hh.mono B2.out.size))
                      have A3 := hide (A2.out.below hh)
                      have D3 := hide (Cells.new c2 #[.int .i64 0, .int .i64 0] 30)
                      refine hK.out _ _ ⟨(Below.cell B3.out (p := ⟨bl, off + k * 2, none⟩) lt0).trans hS0.out.1, (Below.cell B3.out (p := ⟨bl, off + k * 2 + 1, none⟩) lt0).trans hS0.out.2⟩ (fun hS => ?_)
                      clear hK K
                      refine named (P := wpAnyH _ _ _ _ _ _ _ _) ?_
                      intro c3 hcm
                      rw [← hcm] at B3 A3 D3
                      have hsz : c2.heap.size + 1 = c3.heap.size := by rw [hcm]; simp
                      obtain ⟨FB, hFB⟩ : ∃ F, F = c2.heap.size := ⟨_, rfl⟩
                      rw [← hFB] at D3 ⊢
                      have lab := hide (show x0.heap.size ≤ FA ∧ x0.heap.size ≤ FB ∧ FA ≠ FB by have := A2.out.1; have := B2.out.size; have := loFA.out; omega)
                      clear hh hcm hsz hFB
                      (try simp only [Act.put, List.setIfInBounds_toArray, List.set_cons_zero, List.set_cons_succ])
                      clear B2
                      obtain ⟨ra0, ra0f⟩ := A3.out.get 0 _ rfl
                      obtain ⟨ra1, ra1f⟩ := A3.out.get 1 _ rfl
                      obtain ⟨rb0, rb0f⟩ := D3.out.get 0 _ rfl
                      obtain ⟨rb1, rb1f⟩ := D3.out.get 1 _ rfl
                      have ku := ((Keep.refl (fun z => z = FA) c3).setCell (g := FA) (j := 0) (fun _ => rfl) (.int .i64 PW.1)).setCell (g := FA) (j := 1) (fun _ => rfl) (.int .i64 PW.2)
                      have kv := ((((Keep.refl (fun z => z = FA ∨ z = FB) c3).setCell (g := FA) (j := 0) (fun _ => .inl rfl) (.int .i64 PW.1)).setCell (g := FA) (j := 1) (fun _ => .inl rfl) (.int .i64 PW.2)).setCell (g := FB) (j := 0) (fun _ => .inr rfl) (.int .i64 PS.1)).setCell (g := FB) (j := 1) (fun _ => .inr rfl) (.int .i64 PS.2)
                      have bu := B3.out.trans (ku.below B3.out.size (fun z hz q => by have := lab.out; omega))
                      have bv := B3.out.trans (kv.below B3.out.size (fun z hz q => by have := lab.out; omega))
                      have ca := ((((A3.out.stored (j := 0) (by simp) (.int .i64 PW.1)).stored (j := 1) (by simp) (.int .i64 PW.2)).other (g := FB) (j := 0) (y := .int .i64 PS.1) (by have := lab.out; omega)).other (g := FB) (j := 1) (y := .int .i64 PS.2) (by have := lab.out; omega))
                      have cb := (((D3.out.other (g := FA) (j := 0) (y := .int .i64 PW.1) (by have := lab.out; omega)).other (g := FA) (j := 1) (y := .int .i64 PW.2) (by have := lab.out; omega)).stored (j := 0) (by simp) (.int .i64 PS.1)).stored (j := 1) (by simp) (.int .i64 PS.2)
                      have une : FA ≠ FB := by have := lab.out; omega
                      have une2 : FB ≠ FA := by have := lab.out; omega
                      refine wpAnyH_ready (rs := [18]) (by kernel_rfl) (by simp) ?_
                      refine AllReadyH.cons rfl (fun K hK => ?_) AllReadyH.nil
                      go_simp
                      go_wp2_with fail
                      refine hK.out _ _ ⟨(Below.cell bu (p := ⟨bl, off + k * 2, none⟩) lt0).trans hS0.out.1, (Below.cell bu (p := ⟨bl, off + k * 2 + 1, none⟩) lt0).trans hS0.out.2⟩ (fun hS => ?_)
                      clear hK K
                      (try simp only [Act.put, List.setIfInBounds_toArray, List.set_cons_zero, List.set_cons_succ])
                      refine wpAnyH_ready (rs := [19]) (by kernel_rfl) (by simp) ?_
                      refine AllReadyH.cons rfl (fun K hK => ?_) AllReadyH.nil
                      go_simp
                      go_wp2_with fail
                      refine hK.out _ _ ⟨(Below.cell bv (p := ⟨bl, off + k * 2, none⟩) lt0).trans hS0.out.1, (Below.cell bv (p := ⟨bl, off + k * 2 + 1, none⟩) lt0).trans hS0.out.2⟩ (fun hS => ?_)
                      clear hK K
                      (try simp only [Act.put, List.setIfInBounds_toArray, List.set_cons_zero, List.set_cons_succ])
                      refine take_at 20 (some 23) (v := ?_) rfl rfl (by kernel_rfl) (by kernel_rfl) (by kernel_rfl) (fun _ _ _ h => h) ⟨by rfl, ?_⟩ hS ?_
                      rotate_left
                      · intro wq hSw; go_simp; try rfl
                      simp only [Act.put, List.setIfInBounds_toArray, List.set_cons_zero, List.set_cons_succ]
                      refine wpAnyH_done (by kernel_rfl) ?_ _
                      go_wp2_with fail
                      go_meet
                      exact ⟨FA, FB, rfl, rfl, rfl, by simpa using ca, by simpa using cb, une, HX.out.1.trans (bv.mono (by have := HX.out.2; omega))⟩
                    · go_simp
                      go_wp2_with fail
                      have hh := alloc_below c1 (.cells #[.int .i64 0, .int .i64 0] 30)
                      have B2 := hide (B1.out.trans (hh.mono B1.out.size))
                      have D2 := hide (Cells.new c1 #[.int .i64 0, .int .i64 0] 30)
                      refine hK.out _ _ ⟨(Below.cell B2.out (p := ⟨bl, off + k * 2, none⟩) lt0).trans hS0.out.1, (Below.cell B2.out (p := ⟨bl, off + k * 2 + 1, none⟩) lt0).trans hS0.out.2⟩ (fun hS => ?_)
                      clear hK K
                      refine named (P := wpAnyH _ _ _ _ _ _ _ _) ?_
                      intro c2 hcm
                      rw [← hcm] at B2 D2
                      have hsz : c1.heap.size + 1 = c2.heap.size := by rw [hcm]; simp
                      obtain ⟨FB, hFB⟩ : ∃ F, F = c1.heap.size := ⟨_, rfl⟩
                      rw [← hFB] at D2 ⊢
                      have loFB := hide (show x0.heap.size ≤ FB by have := B1.out.size; omega)
                      clear hh hcm hsz hFB
                      (try simp only [Act.put, List.setIfInBounds_toArray, List.set_cons_zero, List.set_cons_succ])
                      clear B1
                      refine wpAnyH_ready (rs := [16]) (by kernel_rfl) (by simp) ?_
                      refine AllReadyH.cons rfl (fun K hK => ?_) AllReadyH.nil
                      go_simp
                      go_wp2_with fail
                      have hh := alloc_below c2 (.cells #[.int .i64 0, .int .i64 0] 30)
                      have B3 := hide (B2.out.trans (hh.mono B2.out.size))
                      have D3 := hide (D2.out.below hh)
                      have A3 := hide (Cells.new c2 #[.int .i64 0, .int .i64 0] 30)
                      refine hK.out _ _ ⟨(Below.cell B3.out (p := ⟨bl, off + k * 2, none⟩) lt0).trans hS0.out.1, (Below.cell B3.out (p := ⟨bl, off + k * 2 + 1, none⟩) lt0).trans hS0.out.2⟩ (fun hS => ?_)
                      clear hK K
                      refine named (P := wpAnyH _ _ _ _ _ _ _ _) ?_
                      intro c3 hcm
                      rw [← hcm] at B3 A3 D3
                      have hsz : c2.heap.size + 1 = c3.heap.size := by rw [hcm]; simp
                      obtain ⟨FA, hFA⟩ : ∃ F, F = c2.heap.size := ⟨_, rfl⟩
                      rw [← hFA] at A3 ⊢
                      have lab := hide (show x0.heap.size ≤ FA ∧ x0.heap.size ≤ FB ∧ FA ≠ FB by have := D2.out.1; have := B2.out.size; have := loFB.out; omega)
                      clear hh hcm hsz hFA
                      (try simp only [Act.put, List.setIfInBounds_toArray, List.set_cons_zero, List.set_cons_succ])
                      clear B2
                      obtain ⟨ra0, ra0f⟩ := A3.out.get 0 _ rfl
                      obtain ⟨ra1, ra1f⟩ := A3.out.get 1 _ rfl
                      obtain ⟨rb0, rb0f⟩ := D3.out.get 0 _ rfl
                      obtain ⟨rb1, rb1f⟩ := D3.out.get 1 _ rfl
                      have ku := ((Keep.refl (fun z => z = FA) c3).setCell (g := FA) (j := 0) (fun _ => rfl) (.int .i64 PW.1)).setCell (g := FA) (j := 1) (fun _ => rfl) (.int .i64 PW.2)
                      have kv := ((((Keep.refl (fun z => z = FA ∨ z = FB) c3).setCell (g := FA) (j := 0) (fun _ => .inl rfl) (.int .i64 PW.1)).setCell (g := FA) (j := 1) (fun _ => .inl rfl) (.int .i64 PW.2)).setCell (g := FB) (j := 0) (fun _ => .inr rfl) (.int .i64 PS.1)).setCell (g := FB) (j := 1) (fun _ => .inr rfl) (.int .i64 PS.2)
                      have bu := B3.out.trans (ku.below B3.out.size (fun z hz q => by have := lab.out; omega))
                      have bv := B3.out.trans (kv.below B3.out.size (fun z hz q => by have := lab.out; omega))
                      have ca := ((((A3.out.stored (j := 0) (by simp) (.int .i64 PW.1)).stored (j := 1) (by simp) (.int .i64 PW.2)).other (g := FB) (j := 0) (y := .int .i64 PS.1) (by have := lab.out; omega)).other (g := FB) (j := 1) (y := .int .i64 PS.2) (by have := lab.out; omega))
                      have cb := (((D3.out.other (g := FA) (j := 0) (y := .int .i64 PW.1) (by have := lab.out; omega)).other (g := FA) (j := 1) (y := .int .i64 PW.2) (by have := lab.out; omega)).stored (j := 0) (by simp) (.int .i64 PS.1)).stored (j := 1) (by simp) (.int .i64 PS.2)
                      have une : FA ≠ FB := by have := lab.out; omega
                      have une2 : FB ≠ FA := by have := lab.out; omega
                      refine wpAnyH_ready (rs := [18]) (by kernel_rfl) (by simp) ?_
                      refine AllReadyH.cons rfl (fun K hK => ?_) AllReadyH.nil
                      go_simp
                      go_wp2_with fail
                      refine hK.out _ _ ⟨(Below.cell bu (p := ⟨bl, off + k * 2, none⟩) lt0).trans hS0.out.1, (Below.cell bu (p := ⟨bl, off + k * 2 + 1, none⟩) lt0).trans hS0.out.2⟩ (fun hS => ?_)
                      clear hK K
                      (try simp only [Act.put, List.setIfInBounds_toArray, List.set_cons_zero, List.set_cons_succ])
                      refine wpAnyH_ready (rs := [19]) (by kernel_rfl) (by simp) ?_
                      refine AllReadyH.cons rfl (fun K hK => ?_) AllReadyH.nil
                      go_simp
                      go_wp2_with fail
                      refine hK.out _ _ ⟨(Below.cell bv (p := ⟨bl, off + k * 2, none⟩) lt0).trans hS0.out.1, (Below.cell bv (p := ⟨bl, off + k * 2 + 1, none⟩) lt0).trans hS0.out.2⟩ (fun hS => ?_)
                      clear hK K
                      (try simp only [Act.put, List.setIfInBounds_toArray, List.set_cons_zero, List.set_cons_succ])
                      refine take_at 20 (some 23) (v := ?_) rfl rfl (by kernel_rfl) (by kernel_rfl) (by kernel_rfl) (fun _ _ _ h => h) ⟨by rfl, ?_⟩ hS ?_
                      rotate_left
                      · intro wq hSw; go_simp; try rfl
                      simp only [Act.put, List.setIfInBounds_toArray, List.set_cons_zero, List.set_cons_succ]
                      refine wpAnyH_done (by kernel_rfl) ?_ _
                      go_wp2_with fail
                      go_meet
                      exact ⟨FA, FB, rfl, rfl, rfl, by simpa using ca, by simpa using cb, une, HX.out.1.trans (bv.mono (by have := HX.out.2; omega))⟩
                  · go_simp
                    go_wp2_with fail
                    have hh := alloc_below x0 (.cells #[.int .i64 0, .int .i64 0] 30)
                    have B1 := hide (B0.out.trans (hh.mono B0.out.size))
                    have A1 := hide (Cells.new x0 #[.int .i64 0, .int .i64 0] 30)
                    refine hK.out _ _ ⟨(Below.cell B1.out (p := ⟨bl, off + k * 2, none⟩) lt0).trans hS0.out.1, (Below.cell B1.out (p := ⟨bl, off + k * 2 + 1, none⟩) lt0).trans hS0.out.2⟩ (fun hS => ?_)
                    clear hK K
                    refine named (P := wpAnyH _ _ _ _ _ _ _ _) ?_
                    intro c1 hcm
                    rw [← hcm] at B1 A1
                    have hsz : x0.heap.size + 1 = c1.heap.size := by rw [hcm]; simp
                    obtain ⟨FA, hFA⟩ : ∃ F, F = x0.heap.size := ⟨_, rfl⟩
                    rw [← hFA] at A1 ⊢
                    have loFA := hide (show x0.heap.size ≤ FA by have := B0.out.size; omega)
                    clear hh hcm hsz hFA
                    (try simp only [Act.put, List.setIfInBounds_toArray, List.set_cons_zero, List.set_cons_succ])
                    refine wpAnyH_ready (rs := [11, 17]) (by kernel_rfl) (by simp) ?_
                    refine AllReadyH.cons rfl (fun K hK => ?_) (AllReadyH.cons rfl (fun K hK => ?_) AllReadyH.nil)
                    · go_simp
                      go_wp2_with fail
                      refine (KPq _ (HPR.out.below B1.out)).mono ?_
                      rintro e c2 ⟨rfl, hh⟩
                      have B2 := hide (B1.out.trans (hh.mono B1.out.size))
                      have A2 := hide (A1.out.below hh)
                      clear hh
                      go_wp2_with fail
                      refine hK.out _ _ ⟨(Below.cell B2.out (p := ⟨bl, off + k * 2, none⟩) lt0).trans hS0.out.1, (Below.cell B2.out (p := ⟨bl, off + k * 2 + 1, none⟩) lt0).trans hS0.out.2⟩ (fun hS => ?_)
                      clear hK K
                      (try simp only [Act.put, List.setIfInBounds_toArray, List.set_cons_zero, List.set_cons_succ])
                      refine take_at 12 (some 195) (v := ?_) rfl rfl (by kernel_rfl) (by kernel_rfl) (by kernel_rfl) (fun _ _ _ h => h) ⟨by rfl, ?_⟩ hS ?_
                      rotate_left
                      · intro wq hSw; go_simp; try rfl
                      simp only [Act.put, List.setIfInBounds_toArray, List.set_cons_zero, List.set_cons_succ]
                      refine take_at 13 (some 208) (v := ?_) rfl rfl (by kernel_rfl) (by kernel_rfl) (by kernel_rfl) (fun _ _ _ h => h) ⟨by rfl, ?_⟩ hS ?_
                      rotate_left
                      · intro wq hSw; go_simp; try rfl
                      simp only [Act.put, List.setIfInBounds_toArray, List.set_cons_zero, List.set_cons_succ]
                      refine take_at 14 (some 209) (v := ?_) rfl rfl (by kernel_rfl) (by kernel_rfl) (by kernel_rfl) (fun _ _ _ h => h) ⟨by rfl, ?_⟩ hS ?_
                      rotate_left
                      · intro wq hSw; go_simp; try rfl
                      simp only [Act.put, List.setIfInBounds_toArray, List.set_cons_zero, List.set_cons_succ]
                      refine take_at 15 (some 210) (v := ?_) rfl rfl (by kernel_rfl) (by kernel_rfl) (by kernel_rfl) (fun _ _ _ h => h) ⟨by rfl, ?_⟩ hS ?_
                      rotate_left
                      · intro wq hSw; go_simp; try rfl
                      simp only [Act.put, List.setIfInBounds_toArray, List.set_cons_zero, List.set_cons_succ]
                      clear B1
                      refine wpAnyH_ready (rs := [17]) (by kernel_rfl) (by simp) ?_
                      refine AllReadyH.cons rfl (fun K hK => ?_) AllReadyH.nil
                      go_simp
                      go_wp2_with fail
                      have hh := alloc_below c2 (.cells #[.int .i64 0, .int .i64 0] 30)
                      have B3 := hide (B2.out.trans (hh.mono B2.out.size))
                      have A3 := hide (A2.out.below hh)
                      have D3 := hide (Cells.new c2 #[.int .i64 0, .int .i64 0] 30)
                      refine hK.out _ _ ⟨(Below.cell B3.out (p := ⟨bl, off + k * 2, none⟩) lt0).trans hS0.out.1, (Below.cell B3.out (p := ⟨bl, off + k * 2 + 1, none⟩) lt0).trans hS0.out.2⟩ (fun hS => ?_)
                      clear hK K
                      refine named (P := wpAnyH _ _ _ _ _ _ _ _) ?_
                      intro c3 hcm
                      rw [← hcm] at B3 A3 D3
                      have hsz : c2.heap.size + 1 = c3.heap.size := by rw [hcm]; simp
                      obtain ⟨FB, hFB⟩ : ∃ F, F = c2.heap.size := ⟨_, rfl⟩
                      rw [← hFB] at D3 ⊢
                      have lab := hide (show x0.heap.size ≤ FA ∧ x0.heap.size ≤ FB ∧ FA ≠ FB by have := A2.out.1; have := B2.out.size; have := loFA.out; omega)
                      clear hh hcm hsz hFB
                      (try simp only [Act.put, List.setIfInBounds_toArray, List.set_cons_zero, List.set_cons_succ])
                      clear B2
                      obtain ⟨ra0, ra0f⟩ := A3.out.get 0 _ rfl
                      obtain ⟨ra1, ra1f⟩ := A3.out.get 1 _ rfl
                      obtain ⟨rb0, rb0f⟩ := D3.out.get 0 _ rfl
                      obtain ⟨rb1, rb1f⟩ := D3.out.get 1 _ rfl
                      have ku := ((Keep.refl (fun z => z = FA) c3).setCell (g := FA) (j := 0) (fun _ => rfl) (.int .i64 PW.1)).setCell (g := FA) (j := 1) (fun _ => rfl) (.int .i64 PW.2)
                      have kv := ((((Keep.refl (fun z => z = FA ∨ z = FB) c3).setCell (g := FA) (j := 0) (fun _ => .inl rfl) (.int .i64 PW.1)).setCell (g := FA) (j := 1) (fun _ => .inl rfl) (.int .i64 PW.2)).setCell (g := FB) (j := 0) (fun _ => .inr rfl) (.int .i64 PS.1)).setCell (g := FB) (j := 1) (fun _ => .inr rfl) (.int .i64 PS.2)
                      have bu := B3.out.trans (ku.below B3.out.size (fun z hz q => by have := lab.out; omega))
                      have bv := B3.out.trans (kv.below B3.out.size (fun z hz q => by have := lab.out; omega))
                      have ca := ((((A3.out.stored (j := 0) (by simp) (.int .i64 PW.1)).stored (j := 1) (by simp) (.int .i64 PW.2)).other (g := FB) (j := 0) (y := .int .i64 PS.1) (by have := lab.out; omega)).other (g := FB) (j := 1) (y := .int .i64 PS.2) (by have := lab.out; omega))
                      have cb := (((D3.out.other (g := FA) (j := 0) (y := .int .i64 PW.1) (by have := lab.out; omega)).other (g := FA) (j := 1) (y := .int .i64 PW.2) (by have := lab.out; omega)).stored (j := 0) (by simp) (.int .i64 PS.1)).stored (j := 1) (by simp) (.int .i64 PS.2)
                      have une : FA ≠ FB := by have := lab.out; omega
                      have une2 : FB ≠ FA := by have := lab.out; omega
                      refine wpAnyH_ready (rs := [18]) (by kernel_rfl) (by simp) ?_
                      refine AllReadyH.cons rfl (fun K hK => ?_) AllReadyH.nil
                      go_simp
                      go_wp2_with fail
                      refine hK.out _ _ ⟨(Below.cell bu (p := ⟨bl, off + k * 2, none⟩) lt0).trans hS0.out.1, (Below.cell bu (p := ⟨bl, off + k * 2 + 1, none⟩) lt0).trans hS0.out.2⟩ (fun hS => ?_)
                      clear hK K
                      (try simp only [Act.put, List.setIfInBounds_toArray, List.set_cons_zero, List.set_cons_succ])
                      refine wpAnyH_ready (rs := [19]) (by kernel_rfl) (by simp) ?_
                      refine AllReadyH.cons rfl (fun K hK => ?_) AllReadyH.nil
                      go_simp
                      go_wp2_with fail
                      refine hK.out _ _ ⟨(Below.cell bv (p := ⟨bl, off + k * 2, none⟩) lt0).trans hS0.out.1, (Below.cell bv (p := ⟨bl, off + k * 2 + 1, none⟩) lt0).trans hS0.out.2⟩ (fun hS => ?_)
                      clear hK K
                      (try simp only [Act.put, List.setIfInBounds_toArray, List.set_cons_zero, List.set_cons_succ])
                      refine take_at 20 (some 23) (v := ?_) rfl rfl (by kernel_rfl) (by kernel_rfl) (by kernel_rfl) (fun _ _ _ h => h) ⟨by rfl, ?_⟩ hS ?_
                      rotate_left
                      · intro wq hSw; go_simp; try rfl
                      simp only [Act.put, List.setIfInBounds_toArray, List.set_cons_zero, List.set_cons_succ]
                      refine wpAnyH_done (by kernel_rfl) ?_ _
                      go_wp2_with fail
                      go_meet
                      exact ⟨FA, FB, rfl, rfl, rfl, by simpa using ca, by simpa using cb, une, HX.out.1.trans (bv.mono (by have := HX.out.2; omega))⟩
                    · go_simp
                      go_wp2_with fail
                      have hh := alloc_below c1 (.cells #[.int .i64 0, .int .i64 0] 30)
                      have B2 := hide (B1.out.trans (hh.mono B1.out.size))
                      have A2 := hide (A1.out.below hh)
                      have D2 := hide (Cells.new c1 #[.int .i64 0, .int .i64 0] 30)
                      refine hK.out _ _ ⟨(Below.cell B2.out (p := ⟨bl, off + k * 2, none⟩) lt0).trans hS0.out.1, (Below.cell B2.out (p := ⟨bl, off + k * 2 + 1, none⟩) lt0).trans hS0.out.2⟩ (fun hS => ?_)
                      clear hK K
                      refine named (P := wpAnyH _ _ _ _ _ _ _ _) ?_
                      intro c2 hcm
                      rw [← hcm] at B2 A2 D2
                      have hsz : c1.heap.size + 1 = c2.heap.size := by rw [hcm]; simp
                      obtain ⟨FB, hFB⟩ : ∃ F, F = c1.heap.size := ⟨_, rfl⟩
                      rw [← hFB] at D2 ⊢
                      have lab := hide (show x0.heap.size ≤ FA ∧ x0.heap.size ≤ FB ∧ FA ≠ FB by have := A1.out.1; have := B1.out.size; have := loFA.out; omega)
                      clear hh hcm hsz hFB
                      (try simp only [Act.put, List.setIfInBounds_toArray, List.set_cons_zero, List.set_cons_succ])
                      clear B1
                      refine wpAnyH_ready (rs := [11]) (by kernel_rfl) (by simp) ?_
                      refine AllReadyH.cons rfl (fun K hK => ?_) AllReadyH.nil
                      go_simp
                      go_wp2_with fail
                      refine (KPq _ (HPR.out.below B2.out)).mono ?_
                      rintro e c3 ⟨rfl, hh⟩
                      have B3 := hide (B2.out.trans (hh.mono B2.out.size))
                      have A3 := hide (A2.out.below hh)
                      have D3 := hide (D2.out.below hh)
                      clear hh
                      go_wp2_with fail
                      refine hK.out _ _ ⟨(Below.cell B3.out (p := ⟨bl, off + k * 2, none⟩) lt0).trans hS0.out.1, (Below.cell B3.out (p := ⟨bl, off + k * 2 + 1, none⟩) lt0).trans hS0.out.2⟩ (fun hS => ?_)
                      clear hK K
                      (try simp only [Act.put, List.setIfInBounds_toArray, List.set_cons_zero, List.set_cons_succ])
                      refine take_at 12 (some 195) (v := ?_) rfl rfl (by kernel_rfl) (by kernel_rfl) (by kernel_rfl) (fun _ _ _ h => h) ⟨by rfl, ?_⟩ hS ?_
                      rotate_left
                      · intro wq hSw; go_simp; try rfl
                      simp only [Act.put, List.setIfInBounds_toArray, List.set_cons_zero, List.set_cons_succ]
                      refine take_at 13 (some 208) (v := ?_) rfl rfl (by kernel_rfl) (by kernel_rfl) (by kernel_rfl) (fun _ _ _ h => h) ⟨by rfl, ?_⟩ hS ?_
                      rotate_left
                      · intro wq hSw; go_simp; try rfl
                      simp only [Act.put, List.setIfInBounds_toArray, List.set_cons_zero, List.set_cons_succ]
                      refine take_at 14 (some 209) (v := ?_) rfl rfl (by kernel_rfl) (by kernel_rfl) (by kernel_rfl) (fun _ _ _ h => h) ⟨by rfl, ?_⟩ hS ?_
                      rotate_left
                      · intro wq hSw; go_simp; try rfl
                      simp only [Act.put, List.setIfInBounds_toArray, List.set_cons_zero, List.set_cons_succ]
                      refine take_at 15 (some 210) (v := ?_) rfl rfl (by kernel_rfl) (by kernel_rfl) (by kernel_rfl) (fun _ _ _ h => h) ⟨by rfl, ?_⟩ hS ?_
                      rotate_left
                      · intro wq hSw; go_simp; try rfl
                      simp only [Act.put, List.setIfInBounds_toArray, List.set_cons_zero, List.set_cons_succ]
                      clear B2
                      obtain ⟨ra0, ra0f⟩ := A3.out.get 0 _ rfl
                      obtain ⟨ra1, ra1f⟩ := A3.out.get 1 _ rfl
                      obtain ⟨rb0, rb0f⟩ := D3.out.get 0 _ rfl
                      obtain ⟨rb1, rb1f⟩ := D3.out.get 1 _ rfl
                      have ku := ((Keep.refl (fun z => z = FA) c3).setCell (g := FA) (j := 0) (fun _ => rfl) (.int .i64 PW.1)).setCell (g := FA) (j := 1) (fun _ => rfl) (.int .i64 PW.2)
                      have kv := ((((Keep.refl (fun z => z = FA ∨ z = FB) c3).setCell (g := FA) (j := 0) (fun _ => .inl rfl) (.int .i64 PW.1)).setCell (g := FA) (j := 1) (fun _ => .inl rfl) (.int .i64 PW.2)).setCell (g := FB) (j := 0) (fun _ => .inr rfl) (.int .i64 PS.1)).setCell (g := FB) (j := 1) (fun _ => .inr rfl) (.int .i64 PS.2)
                      have bu := B3.out.trans (ku.below B3.out.size (fun z hz q => by have := lab.out; omega))
                      have bv := B3.out.trans (kv.below B3.out.size (fun z hz q => by have := lab.out; omega))
                      have ca := ((((A3.out.stored (j := 0) (by simp) (.int .i64 PW.1)).stored (j := 1) (by simp) (.int .i64 PW.2)).other (g := FB) (j := 0) (y := .int .i64 PS.1) (by have := lab.out; omega)).other (g := FB) (j := 1) (y := .int .i64 PS.2) (by have := lab.out; omega))
                      have cb := (((D3.out.other (g := FA) (j := 0) (y := .int .i64 PW.1) (by have := lab.out; omega)).other (g := FA) (j := 1) (y := .int .i64 PW.2) (by have := lab.out; omega)).stored (j := 0) (by simp) (.int .i64 PS.1)).stored (j := 1) (by simp) (.int .i64 PS.2)
                      have une : FA ≠ FB := by have := lab.out; omega
                      have une2 : FB ≠ FA := by have := lab.out; omega
                      refine wpAnyH_ready (rs := [18]) (by kernel_rfl) (by simp) ?_
                      refine AllReadyH.cons rfl (fun K hK => ?_) AllReadyH.nil
                      go_simp
                      go_wp2_with fail
                      refine hK.out _ _ ⟨(Below.cell bu (p := ⟨bl, off + k * 2, none⟩) lt0).trans hS0.out.1, (Below.cell bu (p := ⟨bl, off + k * 2 + 1, none⟩) lt0).trans hS0.out.2⟩ (fun hS => ?_)
                      clear hK K
                      (try simp only [Act.put, List.setIfInBounds_toArray, List.set_cons_zero, List.set_cons_succ])
                      refine wpAnyH_ready (rs := [19]) (by kernel_rfl) (by simp) ?_
                      refine AllReadyH.cons rfl (fun K hK => ?_) AllReadyH.nil
                      go_simp
                      go_wp2_with fail
                      refine hK.out _ _ ⟨(Below.cell bv (p := ⟨bl, off + k * 2, none⟩) lt0).trans hS0.out.1, (Below.cell bv (p := ⟨bl, off + k * 2 + 1, none⟩) lt0).trans hS0.out.2⟩ (fun hS => ?_)
                      clear hK K
                      (try simp only [Act.put, List.setIfInBounds_toArray, List.set_cons_zero, List.set_cons_succ])
                      refine take_at 20 (some 23) (v := ?_) rfl rfl (by kernel_rfl) (by kernel_rfl) (by kernel_rfl) (fun _ _ _ h => h) ⟨by rfl, ?_⟩ hS ?_
                      rotate_left
                      · intro wq hSw; go_simp; try rfl
                      simp only [Act.put, List.setIfInBounds_toArray, List.set_cons_zero, List.set_cons_succ]
                      refine wpAnyH_done (by kernel_rfl) ?_ _
                      go_wp2_with fail
                      go_meet
                      exact ⟨FA, FB, rfl, rfl, rfl, by simpa using ca, by simpa using cb, une, HX.out.1.trans (bv.mono (by have := HX.out.2; omega))⟩
                  · go_simp
                    go_wp2_with fail
                    have hh := alloc_below x0 (.cells #[.int .i64 0, .int .i64 0] 30)
                    have B1 := hide (B0.out.trans (hh.mono B0.out.size))
                    have D1 := hide (Cells.new x0 #[.int .i64 0, .int .i64 0] 30)
                    refine hK.out _ _ ⟨(Below.cell B1.out (p := ⟨bl, off + k * 2, none⟩) lt0).trans hS0.out.1, (Below.cell B1.out (p := ⟨bl, off + k * 2 + 1, none⟩) lt0).trans hS0.out.2⟩ (fun hS => ?_)
                    clear hK K
                    refine named (P := wpAnyH _ _ _ _ _ _ _ _) ?_
                    intro c1 hcm
                    rw [← hcm] at B1 D1
                    have hsz : x0.heap.size + 1 = c1.heap.size := by rw [hcm]; simp
                    obtain ⟨FB, hFB⟩ : ∃ F, F = x0.heap.size := ⟨_, rfl⟩
                    rw [← hFB] at D1 ⊢
                    have loFB := hide (show x0.heap.size ≤ FB by have := B0.out.size; omega)
                    clear hh hcm hsz hFB
                    (try simp only [Act.put, List.setIfInBounds_toArray, List.set_cons_zero, List.set_cons_succ])
                    refine wpAnyH_ready (rs := [11, 16]) (by kernel_rfl) (by simp) ?_
                    refine AllReadyH.cons rfl (fun K hK => ?_) (AllReadyH.cons rfl (fun K hK => ?_) AllReadyH.nil)
                    · go_simp
                      go_wp2_with fail
                      refine (KPq _ (HPR.out.below B1.out)).mono ?_
                      rintro e c2 ⟨rfl, hh⟩
                      have B2 := hide (B1.out.trans (hh.mono B1.out.size))
                      have D2 := hide (D1.out.below hh)
                      clear hh
                      go_wp2_with fail
                      refine hK.out _ _ ⟨(Below.cell B2.out (p := ⟨bl, off + k * 2, none⟩) lt0).trans hS0.out.1, (Below.cell B2.out (p := ⟨bl, off + k * 2 + 1, none⟩) lt0).trans hS0.out.2⟩ (fun hS => ?_)
                      clear hK K
                      (try simp only [Act.put, List.setIfInBounds_toArray, List.set_cons_zero, List.set_cons_succ])
                      refine take_at 12 (some 195) (v := ?_) rfl rfl (by kernel_rfl) (by kernel_rfl) (by kernel_rfl) (fun _ _ _ h => h) ⟨by rfl, ?_⟩ hS ?_
                      rotate_left
                      · intro wq hSw; go_simp; try rfl
                      simp only [Act.put, List.setIfInBounds_toArray, List.set_cons_zero, List.set_cons_succ]
                      refine take_at 13 (some 208) (v := ?_) rfl rfl (by kernel_rfl) (by kernel_rfl) (by kernel_rfl) (fun _ _ _ h => h) ⟨by rfl, ?_⟩ hS ?_
                      rotate_left
                      · intro wq hSw; go_simp; try rfl
                      simp only [Act.put, List.setIfInBounds_toArray, List.set_cons_zero, List.set_cons_succ]
                      refine take_at 14 (some 209) (v := ?_) rfl rfl (by kernel_rfl) (by kernel_rfl) (by kernel_rfl) (fun _ _ _ h => h) ⟨by rfl, ?_⟩ hS ?_
                      rotate_left
                      · intro wq hSw; go_simp; try rfl
                      simp only [Act.put, List.setIfInBounds_toArray, List.set_cons_zero, List.set_cons_succ]
                      refine take_at 15 (some 210) (v := ?_) rfl rfl (by kernel_rfl) (by kernel_rfl) (by kernel_rfl) (fun _ _ _ h => h) ⟨by rfl, ?_⟩ hS ?_
                      rotate_left
                      · intro wq hSw; go_simp; try rfl
                      simp only [Act.put, List.setIfInBounds_toArray, List.set_cons_zero, List.set_cons_succ]
                      clear B1
                      refine wpAnyH_ready (rs := [16]) (by kernel_rfl) (by simp) ?_
                      refine AllReadyH.cons rfl (fun K hK => ?_) AllReadyH.nil
                      go_simp
                      go_wp2_with fail
                      have hh := alloc_below c2 (.cells #[.int .i64 0, .int .i64 0] 30)
                      have B3 := hide (B2.out.trans (hh.mono B2.out.size))
                      have D3 := hide (D2.out.below hh)
                      have A3 := hide (Cells.new c2 #[.int .i64 0, .int .i64 0] 30)
                      refine hK.out _ _ ⟨(Below.cell B3.out (p := ⟨bl, off + k * 2, none⟩) lt0).trans hS0.out.1, (Below.cell B3.out (p := ⟨bl, off + k * 2 + 1, none⟩) lt0).trans hS0.out.2⟩ (fun hS => ?_)
                      clear hK K
                      refine named (P := wpAnyH _ _ _ _ _ _ _ _) ?_
                      intro c3 hcm
                      rw [← hcm] at B3 A3 D3
                      have hsz : c2.heap.size + 1 = c3.heap.size := by rw [hcm]; simp
                      obtain ⟨FA, hFA⟩ : ∃ F, F = c2.heap.size := ⟨_, rfl⟩
                      rw [← hFA] at A3 ⊢
                      have lab := hide (show x0.heap.size ≤ FA ∧ x0.heap.size ≤ FB ∧ FA ≠ FB by have := D2.out.1; have := B2.out.size; have := loFB.out; omega)
                      clear hh hcm hsz hFA
                      (try simp only [Act.put, List.setIfInBounds_toArray, List.set_cons_zero, List.set_cons_succ])
                      clear B2
                      obtain ⟨ra0, ra0f⟩ := A3.out.get 0 _ rfl
                      obtain ⟨ra1, ra1f⟩ := A3.out.get 1 _ rfl
                      obtain ⟨rb0, rb0f⟩ := D3.out.get 0 _ rfl
                      obtain ⟨rb1, rb1f⟩ := D3.out.get 1 _ rfl
                      have ku := ((Keep.refl (fun z => z = FA) c3).setCell (g := FA) (j := 0) (fun _ => rfl) (.int .i64 PW.1)).setCell (g := FA) (j := 1) (fun _ => rfl) (.int .i64 PW.2)
                      have kv := ((((Keep.refl (fun z => z = FA ∨ z = FB) c3).setCell (g := FA) (j := 0) (fun _ => .inl rfl) (.int .i64 PW.1)).setCell (g := FA) (j := 1) (fun _ => .inl rfl) (.int .i64 PW.2)).setCell (g := FB) (j := 0) (fun _ => .inr rfl) (.int .i64 PS.1)).setCell (g := FB) (j := 1) (fun _ => .inr rfl) (.int .i64 PS.2)
                      have bu := B3.out.trans (ku.below B3.out.size (fun z hz q => by have := lab.out; omega))
                      have bv := B3.out.trans (kv.below B3.out.size (fun z hz q => by have := lab.out; omega))
                      have ca := ((((A3.out.stored (j := 0) (by simp) (.int .i64 PW.1)).stored (j := 1) (by simp) (.int .i64 PW.2)).other (g := FB) (j := 0) (y := .int .i64 PS.1) (by have := lab.out; omega)).other (g := FB) (j := 1) (y := .int .i64 PS.2) (by have := lab.out; omega))
                      have cb := (((D3.out.other (g := FA) (j := 0) (y := .int .i64 PW.1) (by have := lab.out; omega)).other (g := FA) (j := 1) (y := .int .i64 PW.2) (by have := lab.out; omega)).stored (j := 0) (by simp) (.int .i64 PS.1)).stored (j := 1) (by simp) (.int .i64 PS.2)
                      have une : FA ≠ FB := by have := lab.out; omega
                      have une2 : FB ≠ FA := by have := lab.out; omega
                      refine wpAnyH_ready (rs := [18]) (by kernel_rfl) (by simp) ?_
                      refine AllReadyH.cons rfl (fun K hK => ?_) AllReadyH.nil
                      go_simp
                      go_wp2_with fail
                      refine hK.out _ _ ⟨(Below.cell bu (p := ⟨bl, off + k * 2, none⟩) lt0).trans hS0.out.1, (Below.cell bu (p := ⟨bl, off + k * 2 + 1, none⟩) lt0).trans hS0.out.2⟩ (fun hS => ?_)
                      clear hK K
                      (try simp only [Act.put, List.setIfInBounds_toArray, List.set_cons_zero, List.set_cons_succ])
                      refine wpAnyH_ready (rs := [19]) (by kernel_rfl) (by simp) ?_
                      refine AllReadyH.cons rfl (fun K hK => ?_) AllReadyH.nil
                      go_simp
                      go_wp2_with fail
                      refine hK.out _ _ ⟨(Below.cell bv (p := ⟨bl, off + k * 2, none⟩) lt0).trans hS0.out.1, (Below.cell bv (p := ⟨bl, off + k * 2 + 1, none⟩) lt0).trans hS0.out.2⟩ (fun hS => ?_)
                      clear hK K
                      (try simp only [Act.put, List.setIfInBounds_toArray, List.set_cons_zero, List.set_cons_succ])
                      refine take_at 20 (some 23) (v := ?_) rfl rfl (by kernel_rfl) (by kernel_rfl) (by kernel_rfl) (fun _ _ _ h => h) ⟨by rfl, ?_⟩ hS ?_
                      rotate_left
                      · intro wq hSw; go_simp; try rfl
                      simp only [Act.put, List.setIfInBounds_toArray, List.set_cons_zero, List.set_cons_succ]
                      refine wpAnyH_done (by kernel_rfl) ?_ _
                      go_wp2_with fail
                      go_meet
                      exact ⟨FA, FB, rfl, rfl, rfl, by simpa using ca, by simpa using cb, une, HX.out.1.trans (bv.mono (by have := HX.out.2; omega))⟩
                    · go_simp
                      go_wp2_with fail
                      have hh := alloc_below c1 (.cells #[.int .i64 0, .int .i64 0] 30)
                      have B2 := hide (B1.out.trans (hh.mono B1.out.size))
                      have D2 := hide (D1.out.below hh)
                      have A2 := hide (Cells.new c1 #[.int .i64 0, .int .i64 0] 30)
                      refine hK.out _ _ ⟨(Below.cell B2.out (p := ⟨bl, off + k * 2, none⟩) lt0).trans hS0.out.1, (Below.cell B2.out (p := ⟨bl, off + k * 2 + 1, none⟩) lt0).trans hS0.out.2⟩ (fun hS => ?_)
                      clear hK K
                      refine named (P := wpAnyH _ _ _ _ _ _ _ _) ?_
                      intro c2 hcm
                      rw [← hcm] at B2 A2 D2
                      have hsz : c1.heap.size + 1 = c2.heap.size := by rw [hcm]; simp
                      obtain ⟨FA, hFA⟩ : ∃ F, F = c1.heap.size := ⟨_, rfl⟩
                      rw [← hFA] at A2 ⊢
                      have lab := hide (show x0.heap.size ≤ FA ∧ x0.heap.size ≤ FB ∧ FA ≠ FB by have := D1.out.1; have := B1.out.size; have := loFB.out; omega)
                      clear hh hcm hsz hFA
                      (try simp only [Act.put, List.setIfInBounds_toArray, List.set_cons_zero, List.set_cons_succ])
                      clear B1
                      refine wpAnyH_ready (rs := [11]) (by kernel_rfl) (by simp) ?_
                      refine AllReadyH.cons rfl (fun K hK => ?_) AllReadyH.nil
                      go_simp
                      go_wp2_with fail
                      refine (KPq _ (HPR.out.below B2.out)).mono ?_
                      rintro e c3 ⟨rfl, hh⟩
                      have B3 := hide (B2.out.trans (hh.mono B2.out.size))
                      have A3 := hide (A2.out.below hh)
                      have D3 := hide (D2.out.below hh)
                      clear hh
                      go_wp2_with fail
                      refine hK.out _ _ ⟨(Below.cell B3.out (p := ⟨bl, off + k * 2, none⟩) lt0).trans hS0.out.1, (Below.cell B3.out (p := ⟨bl, off + k * 2 + 1, none⟩) lt0).trans hS0.out.2⟩ (fun hS => ?_)
                      clear hK K
                      (try simp only [Act.put, List.setIfInBounds_toArray, List.set_cons_zero, List.set_cons_succ])
                      refine take_at 12 (some 195) (v := ?_) rfl rfl (by kernel_rfl) (by kernel_rfl) (by kernel_rfl) (fun _ _ _ h => h) ⟨by rfl, ?_⟩ hS ?_
                      rotate_left
                      · intro wq hSw; go_simp; try rfl
                      simp only [Act.put, List.setIfInBounds_toArray, List.set_cons_zero, List.set_cons_succ]
                      refine take_at 13 (some 208) (v := ?_) rfl rfl (by kernel_rfl) (by kernel_rfl) (by kernel_rfl) (fun _ _ _ h => h) ⟨by rfl, ?_⟩ hS ?_
                      rotate_left
                      · intro wq hSw; go_simp; try rfl
                      simp only [Act.put, List.setIfInBounds_toArray, List.set_cons_zero, List.set_cons_succ]
                      refine take_at 14 (some 209) (v := ?_) rfl rfl (by kernel_rfl) (by kernel_rfl) (by kernel_rfl) (fun _ _ _ h => h) ⟨by rfl, ?_⟩ hS ?_
                      rotate_left
                      · intro wq hSw; go_simp; try rfl
                      simp only [Act.put, List.setIfInBounds_toArray, List.set_cons_zero, List.set_cons_succ]
                      refine take_at 15 (some 210) (v := ?_) rfl rfl (by kernel_rfl) (by kernel_rfl) (by kernel_rfl) (fun _ _ _ h => h) ⟨by rfl, ?_⟩ hS ?_
                      rotate_left
                      · intro wq hSw; go_simp; try rfl
                      simp only [Act.put, List.setIfInBounds_toArray, List.set_cons_zero, List.set_cons_succ]
                      clear B2
                      obtain ⟨ra0, ra0f⟩ := A3.out.get 0 _ rfl
                      obtain ⟨ra1, ra1f⟩ := A3.out.get 1 _ rfl
                      obtain ⟨rb0, rb0f⟩ := D3.out.get 0 _ rfl
                      obtain ⟨rb1, rb1f⟩ := D3.out.get 1 _ rfl
                      have ku := ((Keep.refl (fun z => z = FA) c3).setCell (g := FA) (j := 0) (fun _ => rfl) (.int .i64 PW.1)).setCell (g := FA) (j := 1) (fun _ => rfl) (.int .i64 PW.2)
                      have kv := ((((Keep.refl (fun z => z = FA ∨ z = FB) c3).setCell (g := FA) (j := 0) (fun _ => .inl rfl) (.int .i64 PW.1)).setCell (g := FA) (j := 1) (fun _ => .inl rfl) (.int .i64 PW.2)).setCell (g := FB) (j := 0) (fun _ => .inr rfl) (.int .i64 PS.1)).setCell (g := FB) (j := 1) (fun _ => .inr rfl) (.int .i64 PS.2)
                      have bu := B3.out.trans (ku.below B3.out.size (fun z hz q => by have := lab.out; omega))
                      have bv := B3.out.trans (kv.below B3.out.size (fun z hz q => by have := lab.out; omega))
                      have ca := ((((A3.out.stored (j := 0) (by simp) (.int .i64 PW.1)).stored (j := 1) (by simp) (.int .i64 PW.2)).other (g := FB) (j := 0) (y := .int .i64 PS.1) (by have := lab.out; omega)).other (g := FB) (j := 1) (y := .int .i64 PS.2) (by have := lab.out; omega))
                      have cb := (((D3.out.other (g := FA) (j := 0) (y := .int .i64 PW.1) (by have := lab.out; omega)).other (g := FA) (j := 1) (y := .int .i64 PW.2) (by have := lab.out; omega)).stored (j := 0) (by simp) (.int .i64 PS.1)).stored (j := 1) (by simp) (.int .i64 PS.2)
                      have une : FA ≠ FB := by have := lab.out; omega
                      have une2 : FB ≠ FA := by have := lab.out; omega
                      refine wpAnyH_ready (rs := [18]) (by kernel_rfl) (by simp) ?_
                      refine AllReadyH.cons rfl (fun K hK => ?_) AllReadyH.nil
                      go_simp
                      go_wp2_with fail
                      refine hK.out _ _ ⟨(Below.cell bu (p := ⟨bl, off + k * 2, none⟩) lt0).trans hS0.out.1, (Below.cell bu (p := ⟨bl, off + k * 2 + 1, none⟩) lt0).trans hS0.out.2⟩ (fun hS => ?_)
                      clear hK K
                      (try simp only [Act.put, List.setIfInBounds_toArray, List.set_cons_zero, List.set_cons_succ])
                      refine wpAnyH_ready (rs := [19]) (by kernel_rfl) (by simp) ?_
                      refine AllReadyH.cons rfl (fun K hK => ?_) AllReadyH.nil
                      go_simp
                      go_wp2_with fail
                      refine hK.out _ _ ⟨(Below.cell bv (p := ⟨bl, off + k * 2, none⟩) lt0).trans hS0.out.1, (Below.cell bv (p := ⟨bl, off + k * 2 + 1, none⟩) lt0).trans hS0.out.2⟩ (fun hS => ?_)
                      clear hK K
                      (try simp only [Act.put, List.setIfInBounds_toArray, List.set_cons_zero, List.set_cons_succ])
                      refine take_at 20 (some 23) (v := ?_) rfl rfl (by kernel_rfl) (by kernel_rfl) (by kernel_rfl) (fun _ _ _ h => h) ⟨by rfl, ?_⟩ hS ?_
                      rotate_left
                      · intro wq hSw; go_simp; try rfl
                      simp only [Act.put, List.setIfInBounds_toArray, List.set_cons_zero, List.set_cons_succ]
                      refine wpAnyH_done (by kernel_rfl) ?_ _
                      go_wp2_with fail
                      go_meet
                      exact ⟨FA, FB, rfl, rfl, rfl, by simpa using ca, by simpa using cb, une, HX.out.1.trans (bv.mono (by have := HX.out.2; omega))⟩
              case rest =>
                obtain ⟨t21, t22, rfl, rfl, rfl, D1, D2, dn, b1⟩ := hcut
                have PA2 := hide (PA1.out.below b1)
                have PB2 := hide (PB1.out.below b1)
                have HB2 := hide (HB1.out.trans (b1.mono HB1.out.size))
                have y0 := (b1.cell (p := ⟨bl, off + k * 2, none⟩) hbl2).trans y0
                have hbl2 := Nat.lt_of_lt_of_le hbl2 b1.size
                have F1 := hide (E1.out.below b1)
                have F2 := hide (E2.out.below b1)
                have F3 := hide D1
                have F4 := hide D2
                clear D1 D2 dn b1 PA1 PB1 HB1 KPq y1 E1 E2
                go_upto_region 21 with (go_at_call 15; refine (KFr _ PA2.out).mono ?_; rintro e v2 ⟨rfl, hh⟩; have PAx := hide (PA2.out.below hh); have PBx := hide (PB2.out.below hh); have HBx := hide (HB2.out.trans (hh.mono HB2.out.size)); have y0 := (hh.cell (p := ⟨bl, off + k * 2, none⟩) hbl2).trans y0; have hbl2 := Nat.lt_of_lt_of_le hbl2 hh.size; have F1x := hide (F1.out.below hh); have F2x := hide (F2.out.below hh); have F3x := hide (F3.out.below hh); have F4x := hide (F4.out.below hh); clear hh PA2 PB2 HB2 F1 F2 F3 F4 KFr)
                refine named (P := Code.wp _ _ _ _) ?_
                intro w3 hwn
                obtain ⟨N1, N2, bb, -⟩ := two_cells hwn
                have PA3 := hide (PAx.out.below bb)
                have PB3 := hide (PBx.out.below bb)
                have HB3 := hide (HBx.out.trans (bb.mono HBx.out.size))
                have y0 := (bb.cell (p := ⟨bl, off + k * 2, none⟩) hbl2).trans y0
                have hbl2 := Nat.lt_of_lt_of_le hbl2 bb.size
                have F1 := hide (F1x.out.below bb)
                have F2 := hide (F2x.out.below bb)
                have F3 := hide (F3x.out.below bb)
                have F4 := hide (F4x.out.below bb)
                have F5 := hide N1
                have F6 := hide N2
                clear hwn bb N1 N2 PAx PBx HBx F1x F2x F3x F4x
                obtain ⟨t2, ht⟩ : ∃ t, t = v2.heap.size := ⟨_, rfl⟩
                rw [← ht] at F5 F6 ⊢
                clear ht
                go_upto_region 22 with (go_at_call 15; refine (KFq _ PB3.out).mono ?_; rintro e v3 ⟨rfl, hh⟩; have PAx := hide (PA3.out.below hh); have PBx := hide (PB3.out.below hh); have HBx := hide (HB3.out.trans (hh.mono HB3.out.size)); have y0 := (hh.cell (p := ⟨bl, off + k * 2, none⟩) hbl2).trans y0; have hbl2 := Nat.lt_of_lt_of_le hbl2 hh.size; have F1x := hide (F1.out.below hh); have F2x := hide (F2.out.below hh); have F3x := hide (F3.out.below hh); have F4x := hide (F4.out.below hh); have F5x := hide (F5.out.below hh); have F6x := hide (F6.out.below hh); clear hh PA3 PB3 HB3 F1 F2 F3 F4 F5 F6 KFq)
                refine named (P := Code.wp _ _ _ _) ?_
                intro w4 hwn
                obtain ⟨N1, N2, bb, -⟩ := two_cells hwn
                have PA4 := hide (PAx.out.below bb)
                have PB4 := hide (PBx.out.below bb)
                have HB4 := hide (HBx.out.trans (bb.mono HBx.out.size))
                have y0 := (bb.cell (p := ⟨bl, off + k * 2, none⟩) hbl2).trans y0
                have hbl2 := Nat.lt_of_lt_of_le hbl2 bb.size
                have F1 := hide (F1x.out.below bb)
                have F2 := hide (F2x.out.below bb)
                have F3 := hide (F3x.out.below bb)
                have F4 := hide (F4x.out.below bb)
                have F5 := hide (F5x.out.below bb)
                have F6 := hide (F6x.out.below bb)
                have F7 := hide N1
                have F8 := hide N2
                clear hwn bb N1 N2 PAx PBx HBx F1x F2x F3x F4x F5x F6x
                obtain ⟨t3, ht⟩ : ∃ t, t = v3.heap.size := ⟨_, rfl⟩
                rw [← ht] at F7 F8 ⊢
                clear ht
                obtain ⟨F1p, -⟩ := F1.out.get 0 _ rfl
                obtain ⟨F1q, -⟩ := F1.out.get 1 _ rfl
                obtain ⟨F2p, -⟩ := F2.out.get 0 _ rfl
                obtain ⟨F2q, -⟩ := F2.out.get 1 _ rfl
                obtain ⟨F3p, -⟩ := F3.out.get 0 _ rfl
                obtain ⟨F3q, -⟩ := F3.out.get 1 _ rfl
                obtain ⟨F4p, -⟩ := F4.out.get 0 _ rfl
                obtain ⟨F4q, -⟩ := F4.out.get 1 _ rfl
                obtain ⟨F5p, -⟩ := F5.out.get 0 _ rfl
                obtain ⟨F5q, -⟩ := F5.out.get 1 _ rfl
                obtain ⟨F6p, -⟩ := F6.out.get 0 _ rfl
                obtain ⟨F6q, -⟩ := F6.out.get 1 _ rfl
                obtain ⟨F7p, -⟩ := F7.out.get 0 _ rfl
                obtain ⟨F7q, -⟩ := F7.out.get 1 _ rfl
                obtain ⟨F8p, -⟩ := F8.out.get 0 _ rfl
                obtain ⟨F8q, -⟩ := F8.out.get 1 _ rfl
                clear F1 F2 F3 F4 F5 F6 F7 F8
                go_wp2_with fail
                go_roundw
                case rel => first | exact ⟨k + 1, by go_num, by omega, by omega, PA4.out, PB4.out, HB4.out⟩ | ((repeat apply Exists.intro); exact ⟨⟨k + 1, by go_num, by omega, by omega, PA4.out, PB4.out, HB4.out⟩, rfl⟩)
                case measure => simp [intOf]; omega
          · obtain ⟨LC, hLC⟩ : ∃ l, l = rise R.nums := ⟨_, rfl⟩
            obtain ⟨LG, hLG⟩ : ∃ l, l = rise R.G := ⟨_, rfl⟩
            have HLC := hide (show LC.length ≤ 1000000 by rw [hLC, (rise_perm _).length_eq]; have := PA.out.ok.lens.1; simp [Reg.nums]; omega)
            have HLG := hide (show LG.length ≤ 1000000 by rw [hLG, (rise_perm _).length_eq]; have := PA.out.ok.lens.2; omega)
            have KC1 := fun w' (h : PR w' b m g R) => counters_any b m g R w' h
            have KC2 := fun w' (h : PR w' bq mq gq R) => counters_any bq mq gq R w' h
            have KG1 := fun w' (h : PR w' b m g R) => groups_any b m g R w' h
            have KG2 := fun w' (h : PR w' bq mq gq R) => groups_any bq mq gq R w' h
            rw [← hLC] at KC1 KC2
            rw [← hLG] at KG1 KG2
            clear hLC hLG
            go_wp2_with fail
            refine (KC1 _ PA.out).mono ?_
            rintro e z1 ⟨va, rfl, oa, -, hh⟩
            have PA1 := hide (PA.out.below hh)
            have PB1 := hide (PB.out.below hh)
            have HB1 := hide (HB.out.trans (hh.mono HB.out.size))
            have OA := hide oa
            clear oa hh PA PB HB KC1
            go_wp2_with fail
            refine (KC2 _ PB1.out).mono ?_
            rintro e z2 ⟨vb, rfl, ob2, -, hh⟩
            have PA2 := hide (PA1.out.below hh)
            have PB2 := hide (PB1.out.below hh)
            have HB2 := hide (HB1.out.trans (hh.mono HB1.out.size))
            obtain ⟨ada, caa, ea, sa1, -⟩ := (OA.out.below hh).seen
            obtain ⟨adb, cab, eb, sb1, -⟩ := ob2.seen
            subst ea eb
            have SA := hide sa1
            have SB := hide sb1
            clear sa1 sb1 hh ob2 OA PA1 PB1 HB1 KC2
            go_wp2_with fail
            refine (same_true LC ada adb caa cab z2 SA.out SB.out HLC.out).mono ?_
            rintro e z3 ⟨rfl, hh⟩
            have PA3 := hide (PA2.out.below hh)
            have PB3 := hide (PB2.out.below hh)
            have HB3 := hide (HB2.out.trans (hh.mono HB2.out.size))
            clear hh SA SB PA2 PB2 HB2
            go_wp2_with fail
            refine (KG1 _ PA3.out).mono ?_
            rintro e z4 ⟨va, rfl, oa, -, hh⟩
            have PB4 := hide (PB3.out.below hh)
            have HB4 := hide (HB3.out.trans (hh.mono HB3.out.size))
            have OA := hide oa
            clear oa hh PA3 PB3 HB3 KG1
            go_wp2_with fail
            refine (KG2 _ PB4.out).mono ?_
            rintro e z5 ⟨vb, rfl, ob2, -, hh⟩
            have HB5 := hide (HB4.out.trans (hh.mono HB4.out.size))
            obtain ⟨ada, caa, ea, sa1, -⟩ := (OA.out.below hh).seen
            obtain ⟨adb, cab, eb, sb1, -⟩ := ob2.seen
            subst ea eb
            have SA := hide sa1
            have SB := hide sb1
            clear sa1 sb1 hh ob2 OA PB4 HB4 KG2
            go_wp2_with fail
            refine (same_true LG ada adb caa cab z5 SA.out SB.out HLG.out).mono ?_
            rintro e z6 ⟨rfl, hh⟩
            have HB6 := hide (HB5.out.trans (hh.mono HB5.out.size))
            clear hh SA SB HB5
            go_wp2_with fail
            go_ret
            exact ⟨rfl, HB6.out⟩
        · obtain ⟨LC, hLC⟩ : ∃ l, l = rise R.nums := ⟨_, rfl⟩
          obtain ⟨LG, hLG⟩ : ∃ l, l = rise R.G := ⟨_, rfl⟩
          have HLC := hide (show LC.length ≤ 1000000 by rw [hLC, (rise_perm _).length_eq]; have := PA.out.ok.lens.1; simp [Reg.nums]; omega)
          have HLG := hide (show LG.length ≤ 1000000 by rw [hLG, (rise_perm _).length_eq]; have := PA.out.ok.lens.2; omega)
          have KC1 := fun w' (h : PR w' b m g R) => counters_any b m g R w' h
          have KC2 := fun w' (h : PR w' bq mq gq R) => counters_any bq mq gq R w' h
          have KG1 := fun w' (h : PR w' b m g R) => groups_any b m g R w' h
          have KG2 := fun w' (h : PR w' bq mq gq R) => groups_any bq mq gq R w' h
          rw [← hLC] at KC1 KC2
          rw [← hLG] at KG1 KG2
          clear hLC hLG
          go_wp2_with fail
          refine (KC1 _ PA.out).mono ?_
          rintro e z1 ⟨va, rfl, oa, -, hh⟩
          have PA1 := hide (PA.out.below hh)
          have PB1 := hide (PB.out.below hh)
          have HB1 := hide (HB.out.trans (hh.mono HB.out.size))
          have OA := hide oa
          clear oa hh PA PB HB KC1
          go_wp2_with fail
          refine (KC2 _ PB1.out).mono ?_
          rintro e z2 ⟨vb, rfl, ob2, -, hh⟩
          have PA2 := hide (PA1.out.below hh)
          have PB2 := hide (PB1.out.below hh)
          have HB2 := hide (HB1.out.trans (hh.mono HB1.out.size))
          obtain ⟨ada, caa, ea, sa1, -⟩ := (OA.out.below hh).seen
          obtain ⟨adb, cab, eb, sb1, -⟩ := ob2.seen
          subst ea eb
          have SA := hide sa1
          have SB := hide sb1
          clear sa1 sb1 hh ob2 OA PA1 PB1 HB1 KC2
          go_wp2_with fail
          refine (same_true LC ada adb caa cab z2 SA.out SB.out HLC.out).mono ?_
          rintro e z3 ⟨rfl, hh⟩
          have PA3 := hide (PA2.out.below hh)
          have PB3 := hide (PB2.out.below hh)
          have HB3 := hide (HB2.out.trans (hh.mono HB2.out.size))
          clear hh SA SB PA2 PB2 HB2
          go_wp2_with fail
          refine (KG1 _ PA3.out).mono ?_
          rintro e z4 ⟨va, rfl, oa, -, hh⟩
          have PB4 := hide (PB3.out.below hh)
          have HB4 := hide (HB3.out.trans (hh.mono HB3.out.size))
          have OA := hide oa
          clear oa hh PA3 PB3 HB3 KG1
          go_wp2_with fail
          refine (KG2 _ PB4.out).mono ?_
          rintro e z5 ⟨vb, rfl, ob2, -, hh⟩
          have HB5 := hide (HB4.out.trans (hh.mono HB4.out.size))
          obtain ⟨ada, caa, ea, sa1, -⟩ := (OA.out.below hh).seen
          obtain ⟨adb, cab, eb, sb1, -⟩ := ob2.seen
          subst ea eb
          have SA := hide sa1
          have SB := hide sb1
          clear sa1 sb1 hh ob2 OA PB4 HB4 KG2
          go_wp2_with fail
          refine (same_true LG ada adb caa cab z5 SA.out SB.out HLG.out).mono ?_
          rintro e z6 ⟨rfl, hh⟩
          have HB6 := hide (HB5.out.trans (hh.mono HB5.out.size))
          clear hh SA SB HB5
          go_wp2_with fail
          go_ret
          exact ⟨rfl, HB6.out⟩
end Go.Proofs.Ytimakfnlcgedkaa
