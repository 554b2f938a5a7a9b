import Derived.Test.YtimakfnlcgedkaaRg13
namespace Go.Proofs.Ytimakfnlcgedkaa
open Go.RowKit Go.QK Go.Maps Go.QM Go.QR
set_option maxRecDepth 100000
set_option maxHeartbeats 8000000 in
theorem law_apart (p0 : Int) (xs : List (Int × Int)) (sa : Option Addr) (sc : Nat) (w : World) (hli : Lies w sa (rowsC c2 xs)) : Calls Try.prog 4 #[.int .i64 p0, .slice sa xs.length sc] w fun e w' => e = .returned (.bool true) ∧ Below w.heap.size w w' := by
  have KR1 : ∀ w, Calls Try.prog 8 #[.int .i64 p0, .int .i64 2, .int .i64 64] w _ := fun w => rest_any p0 2 64 w (by omega) (by omega)
  have HLI := hide hli
  clear hli
  go_enter Try.func4, Try.ntmps4
  go_wp2_with fail
  refine (awake_any _).mono ?_
  rintro e w1 ⟨rfl, hb⟩
  have B1 := hide hb
  clear hb
  go_wp2_with fail
  refine (KR1 _).mono ?_
  rintro e w2 ⟨P, rfl, hp1, hp2, hw2⟩
  rw [hw2]
  clear hw2 w2 KR1
  have KT := taken_any P xs sa sc w1 hp1 hp2 (HLI.out.below B1.out)
  unfold TkPost at KT
  go_wp2_with fail
  refine KT.mono ?_
  rintro e w3 ⟨b, m, g, own, wh, su, v1, v2, v3, rfl, tk, hist, hb⟩
  have B3 := hide (B1.out.trans (hb.mono B1.out.size))
  have T3 := hide tk
  have HH := hide hist
  have LOW := hide B1.out.size
  clear KT tk hist hb B1 HLI
  have hmm := @run_makeMap Try.prog
  go_upto_region 8 with fail
  refine named (P := Code.wp _ _ _ _) ?_
  intro w4 hw4
  have T4 := hide (show Tk w4 w1.heap.size b m g (build P own) v1 v2 v3 own wh su by rw [hw4]; exact T3.out.below (alloc_below _ _))
  have B4 := hide (show Below w.heap.size w w4 by rw [hw4]; exact B3.out.alloc B3.out.size _)
  have M4 := hide (show CM w4 w3.heap.size (fun k => ((build P (own.take 0)).gslot k).map slotV) (build P (own.take 0)).G by rw [hw4]; exact CM.made w3)
  have UM := hide T3.out.under
  have MB := hide B3.out.size
  clear hw4 T3 B3 hmm
  obtain ⟨mm, hmm⟩ : ∃ mm, mm = w3.heap.size := ⟨_, rfl⟩
  rw [← hmm] at M4 UM MB ⊢
  clear hmm
  have hle : ∀ i, i ≤ own.length → (build P (own.take i)).Ok := fun i _ => HH.out.ok hp1 hp2 i
  have KF := fun (c : Int) w' (h : PR w' b m g (build P own)) (hc : I64 c) => find_any b m g (build P own) c w' h hc
  have KG := fun (c : Int) w' (h : PR w' b m g (build P own)) (hc : I64 c) => group_any b m g (build P own) c w' h hc
  obtain ⟨a1, c1, q1, -⟩ := GRow.lies T4.out.r1
  obtain ⟨a2, c2', q2, -⟩ := GRow.lies T4.out.r2
  obtain ⟨a3, c3, q3, -⟩ := GRow.lies T4.out.r3
  have EL1 := hide HH.out.l1
  have EL2 := hide HH.out.l2
  subst q1 q2 q3
  have T0 := hide (show True ∧ ∀ p ∈ own, 1 ≤ p.1 ∧ p.1 ≤ 1048576 ∧ 1 ≤ p.2 ∧ p.2 ≤ 1048576 from ⟨trivial, fun p hp => T4.out.pr.ok.inn p (by rw [(build_C P own).1]; exact hp)⟩)
  have hn0 : own.length ≤ 1984 := by have := T4.out.pr.ok.lens.1; rw [(build_C P own).1] at this; exact this
  go_wp2_with fail
  go_loopw [11, 12, 13] (fun z1 z2 z3 wr => ∃ i : Nat, z3 = .int .i64 (i : Int) ∧ i ≤ own.length ∧ z1 = .int .i64 (((needs i 31 : Nat) : Int) - 1) ∧ z2 = .int .i64 ((P : Int) - (needs (build P (own.take i)).G.length 84 : Nat)) ∧ Tk wr w1.heap.size b m g (build P own) (.slice a1 own.length c1) (.slice a2 wh.length c2') (.slice a3 su.length c3) own wh su ∧ CM wr mm (fun k => ((build P (own.take i)).gslot k).map slotV) (build P (own.take i)).G ∧ Below w.heap.size w wr) (fun _ _ v _ => own.length - (intOf v).toNat)
  case atStart =>
    refine ⟨0, rfl, Nat.zero_le _, rfl, ?_, T4.out, M4.out, B4.out⟩
    have e0 : needs (build P (own.take 0)).G.length 84 = 0 := by simp [build, needs]
    rw [e0]
    simp
  case round =>
    obtain ⟨i, rfl, hi, rfl, rfl, tk, cm, hb⟩ := hrel
    have TK := hide tk
    have MM := hide cm
    have HB := hide hb
    clear tk cm hb T4 M4 B4
    by_cases hlt : i < own.length
    · obtain ⟨p, hp⟩ : ∃ p, own[i]? = some p := ⟨_, List.getElem?_eq_getElem hlt⟩
      obtain ⟨hw, hs0⟩ := HH.out.at hp
      obtain ⟨tl1, tl2⟩ := HH.out.tells hp
      have hpin := T0.out.2 p (List.mem_of_getElem? hp)
      obtain ⟨i1, i2, i3, i4⟩ := hpin
      have hI1 : I64 p.1 := by unfold I64; omega
      have hI2 : I64 p.2 := by unfold I64; omega
      obtain ⟨fw, fg, fs, fe⟩ := find_of tl1 tl2
      obtain ⟨gs, ge⟩ := group_of tl2
      have DS := hide (down_step P (build P (own.take i)) p.1 p.2)
      have US := hide (up_step i)
      have NX := hide (HH.out.next hp)
      have GM := hide (fun n => gslot_more (r := build P (own.take i)) p.1 p.2 n)
      obtain ⟨hs, hhs⟩ : ∃ hs, hs = high P ((build P (own.take i)).gAt p.2) := ⟨_, rfl⟩
      have HHS := hide hhs
      rw [← hhs] at hs0 tl2 fs gs DS
      have KF1 := fun w' h => KF p.1 w' h hI1
      have KG1 := fun w' h => KG p.2 w' h hI2
      rw [fw, fg, fs, fe] at KF1
      rw [gs, ge] at KG1
      clear fw fg fs fe gs ge tl1 tl2 hhs KF KG
      obtain ⟨bl1, o1, cc1, e1, l1, x0, x1, g1⟩ := rowc TK.out.r1 hp
      obtain ⟨bl2, o2, cc2, e2, l2, y0, y1, g2⟩ := rowc TK.out.r2 hw
      obtain ⟨bl3, o3, cc3, e3, l3, z0, z1, g3⟩ := rowc TK.out.r3 hs0
      have BM1 : ¬ bl1 = mm := by have := UM.out.2.1 _ g1; omega
      have BM2 : ¬ bl2 = mm := by have := UM.out.2.2.1 _ g2; omega
      have BM3 : ¬ bl3 = mm := by have := UM.out.2.2.2 _ g3; omega
      clear g1 g2 g3
      cases e1
      cases e2
      cases e3
      have y0 : wr.cell? ⟨bl2, o2 + i * 2, none⟩ = some (.int .i64 ((i : Int) / 31)) := y0
      have y1 : wr.cell? ⟨bl2, o2 + i * 2 + 1, none⟩ = some (.int .i64 ((i : Int) % 31)) := y1
      have hlw : i < wh.length := by have := EL1.out; omega
      have hls : i < su.length := by have := EL2.out; omega
      clear hw hs0 hp
      obtain ⟨hh1, hh2⟩ := hs
      cases hpl : place (build P (own.take i)).G p.2 with
      | some k =>
        have HE := hide (show (build P (own.take i)).gslot p.2 = some (hh1, hh2) by unfold Reg.gslot; rw [(build_C P (own.take i)).2, hpl, HHS.out]; unfold Reg.gAt; rw [hpl]; rfl)
        clear hpl
        go_upto_region 16 with fail
        go_upto_region 18 with (first | (at_lookup; refine wpList_look_cm MM.out Try.underlying41 zeroS (x := p.2) hI2 rfl _ _ rfl rfl rfl ?_; simp only [HE.out, Option.map_some, Option.getD_some, Option.isSome_some]) | (at_len; refine wpList_len_cm (MM.out.below (alloc_below _ _)) Try.underlying41 rfl _ rfl rfl ?_))
        refine named (P := Code.wp _ _ _ _) ?_
        intro w5 hw5
        have b5 : Below wr.heap.size wr w5 := by rw [hw5]; exact alloc_below _ _
        have F5 : Cells w5 wr.heap.size [.int .i64 hh1, .int .i64 hh2] := by rw [hw5]; exact Cells.new _ _ _
        clear hw5
        obtain ⟨F, hF⟩ : ∃ F, F = wr.heap.size := ⟨_, rfl⟩
        rw [← hF] at F5 ⊢
        obtain ⟨f0, _⟩ := F5.get 0 _ rfl
        obtain ⟨f1, _⟩ := F5.get 1 _ rfl
        have Y0 := (b5.cell (p := ⟨bl2, o2 + i * 2, none⟩) l2).trans y0
        have Y1 := (b5.cell (p := ⟨bl2, o2 + i * 2 + 1, none⟩) l2).trans y1
        have Z0 := (b5.cell (p := ⟨bl3, o3 + i * 2, none⟩) l3).trans z0
        have Z1 := (b5.cell (p := ⟨bl3, o3 + i * 2 + 1, none⟩) l3).trans z1
        have X1 := (b5.cell (p := ⟨bl1, o1 + i * 2 + 1, none⟩) l1).trans x1
        have X0 := (b5.cell (p := ⟨bl1, o1 + i * 2, none⟩) l1).trans x0
        have TK5 := hide (TK.out.below b5)
        have MM5 := hide (MM.out.below b5)
        have HB5 := hide (HB.out.trans (b5.mono HB.out.size))
        have L1 := Nat.lt_of_lt_of_le l1 b5.size
        have L2 := Nat.lt_of_lt_of_le l2 b5.size
        have L3 := Nat.lt_of_lt_of_le l3 b5.size
        clear b5 F5 hF x0 x1 y0 y1 z0 z1 TK MM HB
        go_quiet (fail)
        go_upto_region 20 with fail
        refine named (P := Code.wp _ _ _ _) ?_
        intro w6 hw6
        have b6 : Below w5.heap.size w5 w6 := by rw [hw6]; exact below_drewN (Below.refl _ _) _
        have X0 := (b6.cell (p := ⟨bl1, o1 + i * 2, none⟩) L1).trans X0
        have X1 := (b6.cell (p := ⟨bl1, o1 + i * 2 + 1, none⟩) L1).trans X1
        have Y0 := (b6.cell (p := ⟨bl2, o2 + i * 2, none⟩) L2).trans Y0
        have Y1 := (b6.cell (p := ⟨bl2, o2 + i * 2 + 1, none⟩) L2).trans Y1
        have Z0 := (b6.cell (p := ⟨bl3, o3 + i * 2, none⟩) L3).trans Z0
        have Z1 := (b6.cell (p := ⟨bl3, o3 + i * 2 + 1, none⟩) L3).trans Z1
        have TK6 := hide (TK5.out.below b6)
        have MM6 := hide (MM5.out.below b6)
        have HB6 := hide (HB5.out.trans (b6.mono HB5.out.size))
        have L1 := Nat.lt_of_lt_of_le L1 b6.size
        have L2 := Nat.lt_of_lt_of_le L2 b6.size
        have L3 := Nat.lt_of_lt_of_le L3 b6.size
        clear hw6 b6 TK5 MM5 HB5 f0 f1
        refine wp_region_held_drew (S := fun wq => wq.cell? ⟨bl1, o1 + i * 2 + 1, none⟩ = some (.int .i64 p.2) ∧ wq.cell? ⟨bl3, o3 + i * 2, none⟩ = some (.int .i64 hh1) ∧ wq.cell? ⟨bl3, o3 + i * 2 + 1, none⟩ = some (.int .i64 hh2)) (by kernel_rfl) ⟨X1, Z0, Z1⟩ (fun hS => ?_)
        obtain ⟨w7, hr7, cm7, kp7⟩ := CM.put_run MM6.out.drew Try.underlying41 (x := p.2) hI2 (v := slotV (hh1, hh2)) (by have := (HH.out.ok hp1 hp2 i).lens.2; omega)
        refine take_at 0 (some 101) (v := ?_) rfl rfl (by kernel_rfl) (by kernel_rfl) (by kernel_rfl) (fun _ _ _ h => h) ⟨by rfl, ?_⟩ hS ?_
        rotate_left
        · intro wq hSw; go_simp; try rfl
        simp only [Act.put, List.setIfInBounds_toArray, List.set_cons_zero, List.set_cons_succ]
        refine take_at 1 (some 102) (v := ?_) rfl rfl (by kernel_rfl) (by kernel_rfl) (by kernel_rfl) (fun _ _ _ h => h) ⟨by rfl, ?_⟩ hS ?_
        rotate_left
        · intro wq hSw; go_simp; try rfl
        simp only [Act.put, List.setIfInBounds_toArray, List.set_cons_zero, List.set_cons_succ]
        refine take_at 2 (some 103) (v := ?_) rfl rfl (by kernel_rfl) (by kernel_rfl) (by kernel_rfl) (fun _ _ _ h => h) ⟨by rfl, ?_⟩ hS ?_
        rotate_left
        · intro wq hSw; go_simp; try rfl
        simp only [Act.put, List.setIfInBounds_toArray, List.set_cons_zero, List.set_cons_succ]
        refine take_at 3 (some 104) (v := ?_) rfl rfl (by kernel_rfl) (by kernel_rfl) (by kernel_rfl) (fun _ _ _ h => h) ⟨by rfl, ?_⟩ hS ?_
        rotate_left
        · intro wq hSw; go_simp; try rfl
        simp only [Act.put, List.setIfInBounds_toArray, List.set_cons_zero, List.set_cons_succ]
        refine take_at 4 (some 105) (v := ?_) rfl rfl (by kernel_rfl) (by kernel_rfl) (by kernel_rfl) (fun _ _ _ h => h) ⟨by rfl, ?_⟩ hS ?_
        rotate_left
        · intro wq hSw; go_simp; try rfl
        simp only [Act.put, List.setIfInBounds_toArray, List.set_cons_zero, List.set_cons_succ]
        refine take_at 5 (some 106) (v := ?_) rfl rfl (by kernel_rfl) (by kernel_rfl) (by kernel_rfl) (fun _ _ _ h => h) ⟨by rfl, ?_⟩ hS ?_
        rotate_left
        · intro wq hSw; obtain ⟨s0, s1, s2⟩ := hSw; go_simp; try rfl
        simp only [Act.put, List.setIfInBounds_toArray, List.set_cons_zero, List.set_cons_succ]
        refine take_at 6 (some 107) (v := ?_) rfl rfl (by kernel_rfl) (by kernel_rfl) (by kernel_rfl) (fun _ _ _ h => h) ⟨by rfl, ?_⟩ hS ?_
        rotate_left
        · intro wq hSw; go_simp; try rfl
        simp only [Act.put, List.setIfInBounds_toArray, List.set_cons_zero, List.set_cons_succ]
        refine take_at 7 (some 108) (v := ?_) rfl rfl (by kernel_rfl) (by kernel_rfl) (by kernel_rfl) (fun _ _ _ h => h) ⟨by rfl, ?_⟩ hS ?_
        rotate_left
        · intro wq hSw; go_simp; try rfl
        simp only [Act.put, List.setIfInBounds_toArray, List.set_cons_zero, List.set_cons_succ]
        refine take_at 8 (some 109) (v := ?_) rfl rfl (by kernel_rfl) (by kernel_rfl) (by kernel_rfl) (fun _ _ _ h => h) ⟨by rfl, ?_⟩ hS ?_
        rotate_left
        · intro wq hSw; go_simp; try rfl
        simp only [Act.put, List.setIfInBounds_toArray, List.set_cons_zero, List.set_cons_succ]
        refine take_at 9 (some 110) (v := ?_) rfl rfl (by kernel_rfl) (by kernel_rfl) (by kernel_rfl) (fun _ _ _ h => h) ⟨by rfl, ?_⟩ hS ?_
        rotate_left
        · intro wq hSw; obtain ⟨s0, s1, s2⟩ := hSw; go_simp; try rfl
        simp only [Act.put, List.setIfInBounds_toArray, List.set_cons_zero, List.set_cons_succ]
        have X1 := (kp7.cell (p := ⟨bl1, o1 + i * 2 + 1, none⟩) L1 BM1).trans X1
        have X0 := (kp7.cell (p := ⟨bl1, o1 + i * 2, none⟩) L1 BM1).trans X0
        have Z0 := (kp7.cell (p := ⟨bl3, o3 + i * 2, none⟩) L3 BM3).trans Z0
        have Z1 := (kp7.cell (p := ⟨bl3, o3 + i * 2 + 1, none⟩) L3 BM3).trans Z1
        have Y0 := (kp7.cell (p := ⟨bl2, o2 + i * 2, none⟩) L2 BM2).trans Y0
        have Y1 := (kp7.cell (p := ⟨bl2, o2 + i * 2 + 1, none⟩) L2 BM2).trans Y1
        refine wpAnyH_ready (rs := [10]) (by kernel_rfl) (by simp) ?_
        refine AllReadyH.cons rfl (fun K hK => ?_) AllReadyH.nil
        go_simp
        go_wp2_with fail
        refine hK.out _ _ ⟨X1, Z0, Z1⟩ (fun hS => ?_)
        clear hK K
        (try simp only [Act.put, List.setIfInBounds_toArray, List.set_cons_zero, List.set_cons_succ])
        refine wpAnyH_done (by kernel_rfl) ?_ _
        have TK7 := hide ((TK6.out.below (Below.refl _ _).drew).keep kp7 (fun x hx => .inr (by rw [hx]; exact UM.out.off (Nat.le_refl _))))
        have HB7 := hide (HB6.out.drew.trans (kp7.below (by exact HB6.out.size) (fun z hz q => by have := MB.out; omega)))
        have L1 := Nat.lt_of_lt_of_le L1 kp7.size
        have L2 := Nat.lt_of_lt_of_le L2 kp7.size
        have L3 := Nat.lt_of_lt_of_le L3 kp7.size
        have MM7 := hide (show CM w7 mm (fun k => ((build P (own.take (i + 1))).gslot k).map slotV) (build P (own.take (i + 1))).G by
          have e1 : (fun k => ((build P (own.take (i + 1))).gslot k).map slotV) = (fun n => if n = p.2 then some (slotV (hh1, hh2)) else ((build P (own.take i)).gslot n).map slotV) := by
            funext n
            rw [NX.out, GM.out n, (build_C P (own.take i)).2, ← HHS.out]
            split <;> rfl
          have e2 : (build P (own.take (i + 1))).G = (if (((build P (own.take i)).gslot p.2).map slotV).isSome then (build P (own.take i)).G else (build P (own.take i)).G ++ [p.2]) := by
            rw [NX.out]
            unfold Reg.more Reg.gslot
            cases place (build P (own.take i)).G p.2 <;> rfl
          rw [e1, e2]
          exact cm7)
        clear cm7 kp7 TK6 MM6 HB6 hr7 hS
        go_upto_region 21 with fail
        go_cut [12] from 111 to 117 (fun v w' => v = .int .i64 ((P : Int) - (needs (build P (own.take (i + 1))).G.length 84 : Nat)) ∧ w' = w7)
        case first =>
          have D1 := DS.out
          rw [← NX.out] at D1
          obtain ⟨hA, hhA⟩ : ∃ x : Int, x = (P : Int) - (needs (build P (own.take i)).G.length 84 : Nat) := ⟨_, rfl⟩
          obtain ⟨hB, hhB⟩ : ∃ x : Int, x = (P : Int) - (needs (build P (own.take (i + 1))).G.length 84 : Nat) := ⟨_, rfl⟩
          rw [← hhA] at D1
          rw [← hhB] at D1
          try simp only at D1
          try simp only [← hhA]
          have D2 := hide D1
          clear D1
          have HHB := hide hhB
          clear hhA hhB
          go_wp2_with fail
          go_meet
          exact ⟨by rw [D2.out, HHB.out], rfl⟩
        case rest =>
          obtain ⟨hv, hwc⟩ := hcut
          subst hwc
          rw [hv]
          clear hv
          go_upto_region 23 with (go_at_call 15; refine (KF1 _ TK7.out.pr).mono ?_; rintro e w8 ⟨rfl, hh⟩; have TK8 := hide (TK7.out.below hh); have MM8 := hide (MM7.out.below hh); have HB8 := hide (HB7.out.trans (hh.mono HB7.out.size)); have X0 := (hh.cell (p := ⟨bl1, o1 + i * 2, none⟩) L1).trans X0; have X1 := (hh.cell (p := ⟨bl1, o1 + i * 2 + 1, none⟩) L1).trans X1; have Y0 := (hh.cell (p := ⟨bl2, o2 + i * 2, none⟩) L2).trans Y0; have Y1 := (hh.cell (p := ⟨bl2, o2 + i * 2 + 1, none⟩) L2).trans Y1; have Z0 := (hh.cell (p := ⟨bl3, o3 + i * 2, none⟩) L3).trans Z0; have Z1 := (hh.cell (p := ⟨bl3, o3 + i * 2 + 1, none⟩) L3).trans Z1; have L1 := Nat.lt_of_lt_of_le L1 hh.size; have L2 := Nat.lt_of_lt_of_le L2 hh.size; have L3 := Nat.lt_of_lt_of_le L3 hh.size; clear hh TK7 MM7 HB7 KF1)
          refine named (P := Code.wp _ _ _ _) ?_
          intro w9 hw9
          obtain ⟨C1, C2, bb, sz⟩ := two_cells hw9
          have X0 := (bb.cell (p := ⟨bl1, o1 + i * 2, none⟩) L1).trans X0
          have X1 := (bb.cell (p := ⟨bl1, o1 + i * 2 + 1, none⟩) L1).trans X1
          have Y0 := (bb.cell (p := ⟨bl2, o2 + i * 2, none⟩) L2).trans Y0
          have Y1 := (bb.cell (p := ⟨bl2, o2 + i * 2 + 1, none⟩) L2).trans Y1
          have Z0 := (bb.cell (p := ⟨bl3, o3 + i * 2, none⟩) L3).trans Z0
          have Z1 := (bb.cell (p := ⟨bl3, o3 + i * 2 + 1, none⟩) L3).trans Z1
          have TK9 := hide (TK8.out.below bb)
          have MM9 := hide (MM8.out.below bb)
          have HB9 := hide (HB8.out.trans (bb.mono HB8.out.size))
          have L1 := Nat.lt_of_lt_of_le L1 bb.size
          have L2 := Nat.lt_of_lt_of_le L2 bb.size
          have L3 := Nat.lt_of_lt_of_le L3 bb.size
          have D1 := hide C1
          have D2 := hide C2
          clear hw9 bb sz TK8 MM8 HB8 C1 C2
          obtain ⟨t17, ht⟩ : ∃ t, t = w8.heap.size := ⟨_, rfl⟩
          rw [← ht] at D1 D2 ⊢
          clear ht
          go_upto_region 24 with (go_at_call 16; refine (KG1 _ TK9.out.pr).mono ?_; rintro e w10 ⟨rfl, hh⟩; have TK10 := hide (TK9.out.below hh); have MM10 := hide (MM9.out.below hh); have HB10 := hide (HB9.out.trans (hh.mono HB9.out.size)); have X0 := (hh.cell (p := ⟨bl1, o1 + i * 2, none⟩) L1).trans X0; have X1 := (hh.cell (p := ⟨bl1, o1 + i * 2 + 1, none⟩) L1).trans X1; have Y0 := (hh.cell (p := ⟨bl2, o2 + i * 2, none⟩) L2).trans Y0; have Y1 := (hh.cell (p := ⟨bl2, o2 + i * 2 + 1, none⟩) L2).trans Y1; have Z0 := (hh.cell (p := ⟨bl3, o3 + i * 2, none⟩) L3).trans Z0; have Z1 := (hh.cell (p := ⟨bl3, o3 + i * 2 + 1, none⟩) L3).trans Z1; have L1 := Nat.lt_of_lt_of_le L1 hh.size; have L2 := Nat.lt_of_lt_of_le L2 hh.size; have L3 := Nat.lt_of_lt_of_le L3 hh.size; have E1 := hide (D1.out.below hh); have E2 := hide (D2.out.below hh); clear hh TK9 MM9 HB9 KG1 D1 D2)
          refine named (P := Code.wp _ _ _ _) ?_
          intro w11 hw11
          obtain ⟨C3, bb, sz⟩ := one_cell hw11
          have X0 := (bb.cell (p := ⟨bl1, o1 + i * 2, none⟩) L1).trans X0
          have X1 := (bb.cell (p := ⟨bl1, o1 + i * 2 + 1, none⟩) L1).trans X1
          have Y0 := (bb.cell (p := ⟨bl2, o2 + i * 2, none⟩) L2).trans Y0
          have Y1 := (bb.cell (p := ⟨bl2, o2 + i * 2 + 1, none⟩) L2).trans Y1
          have Z0 := (bb.cell (p := ⟨bl3, o3 + i * 2, none⟩) L3).trans Z0
          have Z1 := (bb.cell (p := ⟨bl3, o3 + i * 2 + 1, none⟩) L3).trans Z1
          have TK11 := hide (TK10.out.below bb)
          have MM11 := hide (MM10.out.below bb)
          have HB11 := hide (HB10.out.trans (bb.mono HB10.out.size))
          have G1 := E1.out.below bb
          have G2 := E2.out.below bb
          clear hw11 bb sz TK10 MM10 HB10 E1 E2
          obtain ⟨t21, ht⟩ : ∃ t, t = w10.heap.size := ⟨_, rfl⟩
          rw [← ht] at C3 ⊢
          clear ht
          have r0 : w11.cell? ⟨t17, 0, none⟩ = some (.int .i64 ((i : Int) / 31)) := (G1.get 0 _ rfl).1
          have r1 : w11.cell? ⟨t17, 1, none⟩ = some (.int .i64 ((i : Int) % 31)) := (G1.get 1 _ rfl).1
          have r2 : w11.cell? ⟨t17 + 1, 0, none⟩ = some (.int .i64 hh1) := (G2.get 0 _ rfl).1
          have r3 : w11.cell? ⟨t17 + 1, 1, none⟩ = some (.int .i64 hh2) := (G2.get 1 _ rfl).1
          have r4 : w11.cell? ⟨t21, 0, none⟩ = some (.int .i64 hh1) := (C3.get 0 _ rfl).1
          have r5 : w11.cell? ⟨t21, 1, none⟩ = some (.int .i64 hh2) := (C3.get 1 _ rfl).1
          clear G1 G2 C3
          go_quiet ((go_at_call 10; exact Calls.quiet_of_same (num_any _ _)))
          go_wp2_with fail
          go_roundw
          case rel => first | exact ⟨i + 1, by go_num, by omega, by rw [← US.out]; rfl, rfl, TK11.out.below (below_drewN (Below.refl _ _) _), MM11.out.below (below_drewN (Below.refl _ _) _), below_drewN HB11.out _⟩ | ((repeat apply Exists.intro); exact ⟨⟨i + 1, by go_num, by omega, by rw [← US.out]; rfl, rfl, TK11.out.below (below_drewN (Below.refl _ _) _), MM11.out.below (below_drewN (Below.refl _ _) _), below_drewN HB11.out _⟩, rfl⟩)
          case measure => simp [intOf]; omega
      | none =>
        have HE := hide (show (build P (own.take i)).gslot p.2 = none by unfold Reg.gslot; rw [hpl]; rfl)
        have e00 : (build P (own.take i)).gAt p.2 = (build P (own.take i)).G.length := by unfold Reg.gAt; rw [hpl]; rfl
        have hgl := (HH.out.ok hp1 hp2 i).lens.2
        have EE := HHS.out
        rw [e00] at EE
        have E1 : (P : Int) - 1 - ((build P (own.take i)).G.length : Int) / 84 = hh1 := (congrArg Prod.fst EE).symm
        have E2 : ((build P (own.take i)).G.length : Int) % 84 = hh2 := (congrArg Prod.snd EE).symm
        clear hpl e00 EE
        go_upto_region 16 with fail
        go_upto_region 18 with (first | (at_lookup; refine wpList_look_cm MM.out Try.underlying41 zeroS (x := p.2) hI2 rfl _ _ rfl rfl rfl ?_; simp only [HE.out, Option.map_none, Option.getD_none, Option.isSome_none]) | (at_len; refine wpList_len_cm (MM.out.below (alloc_below _ _)) Try.underlying41 rfl _ rfl rfl ?_))
        refine named (P := Code.wp _ _ _ _) ?_
        intro w5 hw5
        have b5 : Below wr.heap.size wr w5 := by rw [hw5]; exact alloc_below _ _
        have F5 : Cells w5 wr.heap.size [.int .i64 0, .int .i64 0] := by rw [hw5]; exact Cells.new _ _ _
        clear hw5
        obtain ⟨F, hF⟩ : ∃ F, F = wr.heap.size := ⟨_, rfl⟩
        rw [← hF] at F5 ⊢
        obtain ⟨f0, _⟩ := F5.get 0 _ rfl
        obtain ⟨f1, _⟩ := F5.get 1 _ rfl
        have Y0 := (b5.cell (p := ⟨bl2, o2 + i * 2, none⟩) l2).trans y0
        have Y1 := (b5.cell (p := ⟨bl2, o2 + i * 2 + 1, none⟩) l2).trans y1
        have Z0 := (b5.cell (p := ⟨bl3, o3 + i * 2, none⟩) l3).trans z0
        have Z1 := (b5.cell (p := ⟨bl3, o3 + i * 2 + 1, none⟩) l3).trans z1
        have X1 := (b5.cell (p := ⟨bl1, o1 + i * 2 + 1, none⟩) l1).trans x1
        have X0 := (b5.cell (p := ⟨bl1, o1 + i * 2, none⟩) l1).trans x0
        have TK5 := hide (TK.out.below b5)
        have MM5 := hide (MM.out.below b5)
        have HB5 := hide (HB.out.trans (b5.mono HB.out.size))
        have L1 := Nat.lt_of_lt_of_le l1 b5.size
        have L2 := Nat.lt_of_lt_of_le l2 b5.size
        have L3 := Nat.lt_of_lt_of_le l3 b5.size
        clear b5 F5 hF x0 x1 y0 y1 z0 z1 TK MM HB
        go_quiet (fail)
        clear E1 E2
        go_upto_region 20 with fail
        refine named (P := Code.wp _ _ _ _) ?_
        intro w6 hw6
        have b6 : Below w5.heap.size w5 w6 := by rw [hw6]; exact below_drewN (Below.refl _ _) _
        have X0 := (b6.cell (p := ⟨bl1, o1 + i * 2, none⟩) L1).trans X0
        have X1 := (b6.cell (p := ⟨bl1, o1 + i * 2 + 1, none⟩) L1).trans X1
        have Y0 := (b6.cell (p := ⟨bl2, o2 + i * 2, none⟩) L2).trans Y0
        have Y1 := (b6.cell (p := ⟨bl2, o2 + i * 2 + 1, none⟩) L2).trans Y1
        have Z0 := (b6.cell (p := ⟨bl3, o3 + i * 2, none⟩) L3).trans Z0
        have Z1 := (b6.cell (p := ⟨bl3, o3 + i * 2 + 1, none⟩) L3).trans Z1
        have TK6 := hide (TK5.out.below b6)
        have MM6 := hide (MM5.out.below b6)
        have HB6 := hide (HB5.out.trans (b6.mono HB5.out.size))
        have L1 := Nat.lt_of_lt_of_le L1 b6.size
        have L2 := Nat.lt_of_lt_of_le L2 b6.size
        have L3 := Nat.lt_of_lt_of_le L3 b6.size
        clear hw6 b6 TK5 MM5 HB5 f0 f1
        refine wp_region_held_drew (S := fun wq => wq.cell? ⟨bl1, o1 + i * 2 + 1, none⟩ = some (.int .i64 p.2) ∧ wq.cell? ⟨bl3, o3 + i * 2, none⟩ = some (.int .i64 hh1) ∧ wq.cell? ⟨bl3, o3 + i * 2 + 1, none⟩ = some (.int .i64 hh2)) (by kernel_rfl) ⟨X1, Z0, Z1⟩ (fun hS => ?_)
        obtain ⟨w7, hr7, cm7, kp7⟩ := CM.put_run MM6.out.drew Try.underlying41 (x := p.2) hI2 (v := slotV (hh1, hh2)) (by have := (HH.out.ok hp1 hp2 i).lens.2; omega)
        refine take_at 0 (some 101) (v := ?_) rfl rfl (by kernel_rfl) (by kernel_rfl) (by kernel_rfl) (fun _ _ _ h => h) ⟨by rfl, ?_⟩ hS ?_
        rotate_left
        · intro wq hSw; go_simp; try rfl
        simp only [Act.put, List.setIfInBounds_toArray, List.set_cons_zero, List.set_cons_succ]
        refine take_at 1 (some 102) (v := ?_) rfl rfl (by kernel_rfl) (by kernel_rfl) (by kernel_rfl) (fun _ _ _ h => h) ⟨by rfl, ?_⟩ hS ?_
        rotate_left
        · intro wq hSw; go_simp; try rfl
        simp only [Act.put, List.setIfInBounds_toArray, List.set_cons_zero, List.set_cons_succ]
        refine take_at 2 (some 103) (v := ?_) rfl rfl (by kernel_rfl) (by kernel_rfl) (by kernel_rfl) (fun _ _ _ h => h) ⟨by rfl, ?_⟩ hS ?_
        rotate_left
        · intro wq hSw; go_simp; try rfl
        simp only [Act.put, List.setIfInBounds_toArray, List.set_cons_zero, List.set_cons_succ]
        refine take_at 3 (some 104) (v := ?_) rfl rfl (by kernel_rfl) (by kernel_rfl) (by kernel_rfl) (fun _ _ _ h => h) ⟨by rfl, ?_⟩ hS ?_
        rotate_left
        · intro wq hSw; go_simp; try rfl
        simp only [Act.put, List.setIfInBounds_toArray, List.set_cons_zero, List.set_cons_succ]
        refine take_at 4 (some 105) (v := ?_) rfl rfl (by kernel_rfl) (by kernel_rfl) (by kernel_rfl) (fun _ _ _ h => h) ⟨by rfl, ?_⟩ hS ?_
        rotate_left
        · intro wq hSw; go_simp; try rfl
        simp only [Act.put, List.setIfInBounds_toArray, List.set_cons_zero, List.set_cons_succ]
        refine take_at 5 (some 106) (v := ?_) rfl rfl (by kernel_rfl) (by kernel_rfl) (by kernel_rfl) (fun _ _ _ h => h) ⟨by rfl, ?_⟩ hS ?_
        rotate_left
        · intro wq hSw; obtain ⟨s0, s1, s2⟩ := hSw; go_simp; try rfl
        simp only [Act.put, List.setIfInBounds_toArray, List.set_cons_zero, List.set_cons_succ]
        refine take_at 6 (some 107) (v := ?_) rfl rfl (by kernel_rfl) (by kernel_rfl) (by kernel_rfl) (fun _ _ _ h => h) ⟨by rfl, ?_⟩ hS ?_
        rotate_left
        · intro wq hSw; go_simp; try rfl
        simp only [Act.put, List.setIfInBounds_toArray, List.set_cons_zero, List.set_cons_succ]
        refine take_at 7 (some 108) (v := ?_) rfl rfl (by kernel_rfl) (by kernel_rfl) (by kernel_rfl) (fun _ _ _ h => h) ⟨by rfl, ?_⟩ hS ?_
        rotate_left
        · intro wq hSw; go_simp; try rfl
        simp only [Act.put, List.setIfInBounds_toArray, List.set_cons_zero, List.set_cons_succ]
        refine take_at 8 (some 109) (v := ?_) rfl rfl (by kernel_rfl) (by kernel_rfl) (by kernel_rfl) (fun _ _ _ h => h) ⟨by rfl, ?_⟩ hS ?_
        rotate_left
        · intro wq hSw; go_simp; try rfl
        simp only [Act.put, List.setIfInBounds_toArray, List.set_cons_zero, List.set_cons_succ]
        refine take_at 9 (some 110) (v := ?_) rfl rfl (by kernel_rfl) (by kernel_rfl) (by kernel_rfl) (fun _ _ _ h => h) ⟨by rfl, ?_⟩ hS ?_
        rotate_left
        · intro wq hSw; obtain ⟨s0, s1, s2⟩ := hSw; go_simp; try rfl
        simp only [Act.put, List.setIfInBounds_toArray, List.set_cons_zero, List.set_cons_succ]
        have X1 := (kp7.cell (p := ⟨bl1, o1 + i * 2 + 1, none⟩) L1 BM1).trans X1
        have X0 := (kp7.cell (p := ⟨bl1, o1 + i * 2, none⟩) L1 BM1).trans X0
        have Z0 := (kp7.cell (p := ⟨bl3, o3 + i * 2, none⟩) L3 BM3).trans Z0
        have Z1 := (kp7.cell (p := ⟨bl3, o3 + i * 2 + 1, none⟩) L3 BM3).trans Z1
        have Y0 := (kp7.cell (p := ⟨bl2, o2 + i * 2, none⟩) L2 BM2).trans Y0
        have Y1 := (kp7.cell (p := ⟨bl2, o2 + i * 2 + 1, none⟩) L2 BM2).trans Y1
        refine wpAnyH_ready (rs := [10]) (by kernel_rfl) (by simp) ?_
        refine AllReadyH.cons rfl (fun K hK => ?_) AllReadyH.nil
        go_simp
        go_wp2_with fail
        refine hK.out _ _ ⟨X1, Z0, Z1⟩ (fun hS => ?_)
        clear hK K
        (try simp only [Act.put, List.setIfInBounds_toArray, List.set_cons_zero, List.set_cons_succ])
        refine wpAnyH_done (by kernel_rfl) ?_ _
        have TK7 := hide ((TK6.out.below (Below.refl _ _).drew).keep kp7 (fun x hx => .inr (by rw [hx]; exact UM.out.off (Nat.le_refl _))))
        have HB7 := hide (HB6.out.drew.trans (kp7.below (by exact HB6.out.size) (fun z hz q => by have := MB.out; omega)))
        have L1 := Nat.lt_of_lt_of_le L1 kp7.size
        have L2 := Nat.lt_of_lt_of_le L2 kp7.size
        have L3 := Nat.lt_of_lt_of_le L3 kp7.size
        have MM7 := hide (show CM w7 mm (fun k => ((build P (own.take (i + 1))).gslot k).map slotV) (build P (own.take (i + 1))).G by
          have e1 : (fun k => ((build P (own.take (i + 1))).gslot k).map slotV) = (fun n => if n = p.2 then some (slotV (hh1, hh2)) else ((build P (own.take i)).gslot n).map slotV) := by
            funext n
            rw [NX.out, GM.out n, (build_C P (own.take i)).2, ← HHS.out]
            split <;> rfl
          have e2 : (build P (own.take (i + 1))).G = (if (((build P (own.take i)).gslot p.2).map slotV).isSome then (build P (own.take i)).G else (build P (own.take i)).G ++ [p.2]) := by
            rw [NX.out]
            unfold Reg.more Reg.gslot
            cases place (build P (own.take i)).G p.2 <;> rfl
          rw [e1, e2]
          exact cm7)
        clear cm7 kp7 TK6 MM6 HB6 hr7 hS
        go_upto_region 21 with fail
        go_cut [12] from 111 to 117 (fun v w' => v = .int .i64 ((P : Int) - (needs (build P (own.take (i + 1))).G.length 84 : Nat)) ∧ w' = w7)
        case first =>
          have D1 := DS.out
          rw [← NX.out] at D1
          obtain ⟨hA, hhA⟩ : ∃ x : Int, x = (P : Int) - (needs (build P (own.take i)).G.length 84 : Nat) := ⟨_, rfl⟩
          obtain ⟨hB, hhB⟩ : ∃ x : Int, x = (P : Int) - (needs (build P (own.take (i + 1))).G.length 84 : Nat) := ⟨_, rfl⟩
          rw [← hhA] at D1
          rw [← hhB] at D1
          try simp only at D1
          try simp only [← hhA]
          have D2 := hide D1
          clear D1
          have HHB := hide hhB
          clear hhA hhB
          go_wp2_with fail
          go_meet
          exact ⟨by rw [D2.out, HHB.out], rfl⟩
        case rest =>
          obtain ⟨hv, hwc⟩ := hcut
          subst hwc
          rw [hv]
          clear hv
          go_upto_region 23 with (go_at_call 15; refine (KF1 _ TK7.out.pr).mono ?_; rintro e w8 ⟨rfl, hh⟩; have TK8 := hide (TK7.out.below hh); have MM8 := hide (MM7.out.below hh); have HB8 := hide (HB7.out.trans (hh.mono HB7.out.size)); have X0 := (hh.cell (p := ⟨bl1, o1 + i * 2, none⟩) L1).trans X0; have X1 := (hh.cell (p := ⟨bl1, o1 + i * 2 + 1, none⟩) L1).trans X1; have Y0 := (hh.cell (p := ⟨bl2, o2 + i * 2, none⟩) L2).trans Y0; have Y1 := (hh.cell (p := ⟨bl2, o2 + i * 2 + 1, none⟩) L2).trans Y1; have Z0 := (hh.cell (p := ⟨bl3, o3 + i * 2, none⟩) L3).trans Z0; have Z1 := (hh.cell (p := ⟨bl3, o3 + i * 2 + 1, none⟩) L3).trans Z1; have L1 := Nat.lt_of_lt_of_le L1 hh.size; have L2 := Nat.lt_of_lt_of_le L2 hh.size; have L3 := Nat.lt_of_lt_of_le L3 hh.size; clear hh TK7 MM7 HB7 KF1)
          refine named (P := Code.wp _ _ _ _) ?_
          intro w9 hw9
          obtain ⟨C1, C2, bb, sz⟩ := two_cells hw9
          have X0 := (bb.cell (p := ⟨bl1, o1 + i * 2, none⟩) L1).trans X0
          have X1 := (bb.cell (p := ⟨bl1, o1 + i * 2 + 1, none⟩) L1).trans X1
          have Y0 := (bb.cell (p := ⟨bl2, o2 + i * 2, none⟩) L2).trans Y0
          have Y1 := (bb.cell (p := ⟨bl2, o2 + i * 2 + 1, none⟩) L2).trans Y1
          have Z0 := (bb.cell (p := ⟨bl3, o3 + i * 2, none⟩) L3).trans Z0
          have Z1 := (bb.cell (p := ⟨bl3, o3 + i * 2 + 1, none⟩) L3).trans Z1
          have TK9 := hide (TK8.out.below bb)
          have MM9 := hide (MM8.out.below bb)
          have HB9 := hide (HB8.out.trans (bb.mono HB8.out.size))
          have L1 := Nat.lt_of_lt_of_le L1 bb.size
          have L2 := Nat.lt_of_lt_of_le L2 bb.size
          have L3 := Nat.lt_of_lt_of_le L3 bb.size
          have D1 := hide C1
          have D2 := hide C2
          clear hw9 bb sz TK8 MM8 HB8 C1 C2
          obtain ⟨t17, ht⟩ : ∃ t, t = w8.heap.size := ⟨_, rfl⟩
          rw [← ht] at D1 D2 ⊢
          clear ht
          go_upto_region 24 with (go_at_call 16; refine (KG1 _ TK9.out.pr).mono ?_; rintro e w10 ⟨rfl, hh⟩; have TK10 := hide (TK9.out.below hh); have MM10 := hide (MM9.out.below hh); have HB10 := hide (HB9.out.trans (hh.mono HB9.out.size)); have X0 := (hh.cell (p := ⟨bl1, o1 + i * 2, none⟩) L1).trans X0; have X1 := (hh.cell (p := ⟨bl1, o1 + i * 2 + 1, none⟩) L1).trans X1; have Y0 := (hh.cell (p := ⟨bl2, o2 + i * 2, none⟩) L2).trans Y0; have Y1 := (hh.cell (p := ⟨bl2, o2 + i * 2 + 1, none⟩) L2).trans Y1; have Z0 := (hh.cell (p := ⟨bl3, o3 + i * 2, none⟩) L3).trans Z0; have Z1 := (hh.cell (p := ⟨bl3, o3 + i * 2 + 1, none⟩) L3).trans Z1; have L1 := Nat.lt_of_lt_of_le L1 hh.size; have L2 := Nat.lt_of_lt_of_le L2 hh.size; have L3 := Nat.lt_of_lt_of_le L3 hh.size; have E1 := hide (D1.out.below hh); have E2 := hide (D2.out.below hh); clear hh TK9 MM9 HB9 KG1 D1 D2)
          refine named (P := Code.wp _ _ _ _) ?_
          intro w11 hw11
          obtain ⟨C3, bb, sz⟩ := one_cell hw11
          have X0 := (bb.cell (p := ⟨bl1, o1 + i * 2, none⟩) L1).trans X0
          have X1 := (bb.cell (p := ⟨bl1, o1 + i * 2 + 1, none⟩) L1).trans X1
          have Y0 := (bb.cell (p := ⟨bl2, o2 + i * 2, none⟩) L2).trans Y0
          have Y1 := (bb.cell (p := ⟨bl2, o2 + i * 2 + 1, none⟩) L2).trans Y1
          have Z0 := (bb.cell (p := ⟨bl3, o3 + i * 2, none⟩) L3).trans Z0
          have Z1 := (bb.cell (p := ⟨bl3, o3 + i * 2 + 1, none⟩) L3).trans Z1
          have TK11 := hide (TK10.out.below bb)
          have MM11 := hide (MM10.out.below bb)
          have HB11 := hide (HB10.out.trans (bb.mono HB10.out.size))
          have G1 := E1.out.below bb
          have G2 := E2.out.below bb
          clear hw11 bb sz TK10 MM10 HB10 E1 E2
          obtain ⟨t21, ht⟩ : ∃ t, t = w10.heap.size := ⟨_, rfl⟩
          rw [← ht] at C3 ⊢
          clear ht
          have r0 : w11.cell? ⟨t17, 0, none⟩ = some (.int .i64 ((i : Int) / 31)) := (G1.get 0 _ rfl).1
          have r1 : w11.cell? ⟨t17, 1, none⟩ = some (.int .i64 ((i : Int) % 31)) := (G1.get 1 _ rfl).1
          have r2 : w11.cell? ⟨t17 + 1, 0, none⟩ = some (.int .i64 hh1) := (G2.get 0 _ rfl).1
          have r3 : w11.cell? ⟨t17 + 1, 1, none⟩ = some (.int .i64 hh2) := (G2.get 1 _ rfl).1
          have r4 : w11.cell? ⟨t21, 0, none⟩ = some (.int .i64 hh1) := (C3.get 0 _ rfl).1
          have r5 : w11.cell? ⟨t21, 1, none⟩ = some (.int .i64 hh2) := (C3.get 1 _ rfl).1
          clear G1 G2 C3
          go_quiet ((go_at_call 10; exact Calls.quiet_of_same (num_any _ _)))
          go_wp2_with fail
          go_roundw
          case rel => first | exact ⟨i + 1, by go_num, by omega, by rw [← US.out]; rfl, rfl, TK11.out.below (below_drewN (Below.refl _ _) _), MM11.out.below (below_drewN (Below.refl _ _) _), below_drewN HB11.out _⟩ | ((repeat apply Exists.intro); exact ⟨⟨i + 1, by go_num, by omega, by rw [← US.out]; rfl, rfl, TK11.out.below (below_drewN (Below.refl _ _) _), MM11.out.below (below_drewN (Below.refl _ _) _), below_drewN HB11.out _⟩, rfl⟩)
          case measure => simp [intOf]; omega
    · obtain rfl : i = own.length := by omega
      have EN := ends TK.out.pr.ok
      rw [(build_C P own).1, (build_C P own).2] at EN
      have MM2 := MM.out
      simp only [List.take_length] at MM2 ⊢
      have MMF := hide MM2
      have KC := fun w' (h : PR w' b m g (build P own)) => counters_any b m g (build P own) w' h
      have KD := fun w' (h : PR w' b m g (build P own)) => groups_any b m g (build P own) w' h
      have HL1 := hide (show (rise (build P own).nums).length = own.length by rw [(rise_perm _).length_eq]; unfold Reg.nums; rw [(build_C P own).1]; simp)
      have HL2 := hide (show (rise (build P own).G).length = (build P own).G.length by rw [(rise_perm _).length_eq])
      have hgl := TK.out.pr.ok.lens.2
      obtain ⟨nA, hnA⟩ : ∃ x : Int, x = ((needs own.length 31 : Nat) : Int) - 1 := ⟨_, rfl⟩
      obtain ⟨nB, hnB⟩ : ∃ x : Int, x = (P : Int) - (needs (build P own).G.length 84 : Nat) := ⟨_, rfl⟩
      rw [← hnA, ← hnB] at EN ⊢
      obtain ⟨en1, en2⟩ := EN
      clear hnA hnB MM MM2
      go_wp2_with fail
      refine (KC _ TK.out.pr).mono ?_
      rintro e w9 ⟨v, rfl, ov, nv, hh⟩
      obtain ⟨av, cv, hv, -⟩ := ov.seen
      rw [HL1.out] at hv
      subst hv
      have HB9 := hide (HB.out.trans (hh.mono HB.out.size))
      have TK9 := hide (TK.out.below hh)
      have MM9 := hide (MMF.out.below hh)
      clear ov nv hh KC TK HB MMF
      go_wp2_with fail
      refine (KD _ TK9.out.pr).mono ?_
      rintro e w10 ⟨v, rfl, ov, nv, hh⟩
      obtain ⟨av, cv, hv, -⟩ := ov.seen
      rw [HL2.out] at hv
      subst hv
      have HB10 := hide (HB9.out.trans (hh.mono HB9.out.size))
      have MM10 := hide (MM9.out.below hh)
      clear ov nv hh KD TK9 HB9 MM9
      have hlr := fun ty => MM10.out.len Try.underlying41 ty
      go_wp2_with fail
      go_ret
      exact ⟨rfl, HB10.out⟩
end Go.Proofs.Ytimakfnlcgedkaa
