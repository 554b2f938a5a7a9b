import Derived.Test.YtakjpljpdlhicaaDoorXB
import Derived.Great.BuildSlice
set_option linter.all false
namespace Go.Proofs.YtakjpljpdlhicaaDoor
open Go.RowKit Go.QK Go.Pg
set_option maxRecDepth 100000
theorem fill57 (a b c d e : Int) : Instr.fill (fun i => some (i * 5, 5)) ((Array.range (1 * 5)).map ((Value.agg #[.int .i64 0, .int .i64 0, .int .i64 0, .int .i64 0, .int .i64 0]).cells[· % (Value.agg #[.int .i64 0, .int .i64 0, .int .i64 0, .int .i64 0, .int .i64 0]).cells.size]!)) [(0, .agg #[.int .i64 a, .int .i64 b, .int .i64 c, .int .i64 d, .int .i64 e])] = some #[.int .i64 a, .int .i64 b, .int .i64 c, .int .i64 d, .int .i64 e] := by kernel_rfl
theorem fill59 (a b : Int) : Instr.fill (fun i => some (i * 2, 2)) ((Array.range (1 * 2)).map ((Value.agg #[.int .i64 0, .int .i64 0]).cells[· % (Value.agg #[.int .i64 0, .int .i64 0]).cells.size]!)) [(0, .agg #[.int .i64 a, .int .i64 b])] = some #[.int .i64 a, .int .i64 b] := by kernel_rfl
theorem wp_b24 {o : Oper} {a : Act} {w : World} {K : Act → World → Prop} {Q : Exit → Act → World → Prop} {x : Operand} {x0 x1 x2 x3 x4 : Int} (ho : o.op = .buildSlice 24 1 #[(0, x)]) (hx : a.eval x = .agg #[.int .i64 x0, .int .i64 x1, .int .i64 x2, .int .i64 x3, .int .i64 x4])
    (h : K (a.put o.dst (.slice (some ⟨w.heap.size, 0, none⟩) 1 1)) (w.alloc (.cells #[.int .i64 x0, .int .i64 x1, .int .i64 x2, .int .i64 x3, .int .i64 x4] 57))) : o.wp Tryd.prog a w K Q := by
  obtain ⟨i0, hi, h0, h2, h3⟩ := info_of info57
  refine wp_buildSlice 24 57 1 #[(0, x)] ho #[.int .i64 x0, .int .i64 x1, .int .i64 x2, .int .i64 x3, .int .i64 x4] i0 _ Tryd.underlying24 hi h0 (by rw [h2]; decide) (by rw [h2]; decide) ?_ h
  rw [h2]
  simp only [List.map_toArray, List.map_cons, List.map_nil, hx]
  exact fill57 x0 x1 x2 x3 x4
theorem wp_b25 {o : Oper} {a : Act} {w : World} {K : Act → World → Prop} {Q : Exit → Act → World → Prop} {x : Operand} {x0 x1 : Int} (ho : o.op = .buildSlice 25 1 #[(0, x)]) (hx : a.eval x = .agg #[.int .i64 x0, .int .i64 x1])
    (h : K (a.put o.dst (.slice (some ⟨w.heap.size, 0, none⟩) 1 1)) (w.alloc (.cells #[.int .i64 x0, .int .i64 x1] 59))) : o.wp Tryd.prog a w K Q := by
  obtain ⟨i0, hi, h0, h2, h3⟩ := info_of info59
  refine wp_buildSlice 25 59 1 #[(0, x)] ho #[.int .i64 x0, .int .i64 x1] i0 _ Tryd.underlying25 hi h0 (by rw [h2]; decide) (by rw [h2]; decide) ?_ h
  rw [h2]
  simp only [List.map_toArray, List.map_cons, List.map_nil, hx]
  exact fill59 x0 x1
theorem exec_build27 {o : Oper} {ev : Operand → Value} {x y z u : Operand} {p l : Int} {a b : Option Addr} {n c m d : Nat} {w : World} (ho : o.op = .build 27 #[(0, x), (1, y), (2, z), (3, u)]) (hx : ev x = .int .i64 p) (hy : ev y = .int .i64 l) (hz : ev z = .slice a n c) (hu : ev u = .slice b m d) :
    (execOp ev o).run Tryd.prog w = .ok (.value (.agg #[.int .i64 p, .int .i64 l, .slice a n c, .slice b m d])) w := by
  unfold execOp
  simp only [ho, List.map_toArray, List.map_cons, List.map_nil, hx, hy, hz, hu]
  go_simp
/-- A word around a fact, so that no step takes it for its own. -/
structure Bxd (T : Prop) : Prop where
  out : T
/-- mark, but for three ways of one region. -/
structure MarkT : Type where
  T1 : Prop
  T2 : Prop
  T3 : Prop
  pf : Bxd T1 → Bxd T2 → Bxd T3 → ∀ (w0 w : World) (B L : Nat) (lab : Nat → Nat) (I : Nat → Option It) (vB vW vP vR : Value) (bs : List (Value × List Nat)) (ws : List (List Nat)) (ps qs : List (PageM × At)) (own : Own w B lab I) (bx : Bx w lab I L 0 [vB, vW, vP, vR]) (ct : Ct I vB vW vP vR bs ws ps qs) (lws : ws.length = bs.length) (n8 : I 8 = none) (n9 : I 9 = none) (bb : Below B w0 w) (hB : B ≤ w.heap.size) (bl : B ≤ L) (nb0 : 0 < bs.length) (np0 : 0 < ps.length), Calls Tryd.prog 23 #[.pointer (some ⟨L, 0, none⟩)] w fun e w' => e = .returned (.bool true) ∧ Below B w0 w'
set_option maxHeartbeats 64000000 in
def markT : MarkT := by
  apply MarkT.mk
  case pf =>
    intro h1 h2 h3 w0 w B L lab I vB vW vP vR bs ws ps qs own bx ct lws n8 n9 bb hB bl nb0 np0
    obtain ⟨gB, cB, eB, -⟩ := grow_open (own.at_ _ _ ct.rB).1 nb0
    obtain ⟨gW, cW, eW, -⟩ := grow_open (own.at_ _ _ ct.rW).1 (by show 0 < ws.length; omega)
    obtain ⟨gP, cP, eP, -⟩ := grow_open (own.at_ _ _ ct.rP).1 np0
    obtain ⟨aR, cR, eR, -⟩ := GRow.lies (own.at_ _ _ ct.rR).1
    have eB : vB = .slice (some ⟨gB, 0, none⟩) bs.length cB := eB
    have eW : vW = .slice (some ⟨gW, 0, none⟩) ws.length cW := eW
    have eP : vP = .slice (some ⟨gP, 0, none⟩) ps.length cP := eP
    have eR : vR = .slice aR qs.length cR := eR
    rw [lws] at eW
    subst eB eW eP eR
    have ST0 := fun w2 hw => Hp.start (w2 := w2) own bx ct lws n8 n9 bb hB bl hw
    have HX := hide (show ∀ i (h : i < bs.length), ∃ g c, bs[i].1 = .slice (some ⟨g, 0, none⟩) 1024 c from fun i hi => by
      obtain ⟨g, c, q, -⟩ := grow_open (own.at_ _ _ (ct.iB i hi)).1 (by show 0 < 1024; decide)
      exact ⟨g, c, q⟩)
    have HL1 := hide ct.lB
    have HL2 := hide ct.lP
    have m1 : bs.length ≤ 90 := ct.n1
    have m2 : ps.length ≤ 40 := ct.n2
    clear own bx ct lws n8 n9 bb hB bl
    obtain ⟨nb, hnb⟩ : ∃ n, n = bs.length := ⟨_, rfl⟩
    obtain ⟨np, hnp⟩ : ∃ n, n = ps.length := ⟨_, rfl⟩
    rw [← hnb] at m1 nb0
    rw [← hnp] at m2 np0
    have HNB := hide hnb
    have HNP := hide hnp
    clear hnb hnp
    obtain ⟨nr, hnr⟩ : ∃ n, n = qs.length := ⟨_, rfl⟩
    simp only [← HNB.out, ← HNP.out, ← hnr] at ST0
    have ST0 := hide ST0
    clear hnr
    go_enter Tryd.func23, Tryd.ntmps23
    go_upto_region 2 with fail
    refine named (P := Code.wp _ _ _ _) ?_
    intro w2 hw2
    obtain ⟨lab0, I0, h0, sa0, sp0⟩ := ST0.out w2 hw2
    obtain ⟨M, hM⟩ : ∃ z, z = w.heap.size := ⟨_, rfl⟩
    rw [← hM] at h0 ⊢
    clear hM hw2 ST0
    have H0 := hide h0
    have SA0 := hide sa0
    have SP0 := hide sp0
    clear h0 sa0 sp0
    go_wp2_with fail
    go_loopw [4] (fun v wz => ∃ (i : Nat) (lab : Nat → Nat) (I : Nat → Option It) (T : Tl) (mB mW : Value), v = .int .i64 (i : Int) ∧ i ≤ nb ∧ Hp w0 B L M wz lab I T [.slice (some ⟨gB, 0, none⟩) nb cB, .slice (some ⟨gW, 0, none⟩) nb cW, .slice (some ⟨gP, 0, none⟩) np cP, .slice aR nr cR] [mB, mW, nilS, nilS] [] ∧ SA I T (.slice (some ⟨gB, 0, none⟩) nb cB) (.slice (some ⟨gW, 0, none⟩) nb cW) mB mW bs i ∧ SP I T (.slice (some ⟨gP, 0, none⟩) np cP) nilS ps 0 0) (fun v _ => nb + 1 - (intOf v).toNat)
    case atStart => exact ⟨0, lab0, I0, _, _, _, rfl, Nat.zero_le _, H0.out, SA0.out, SP0.out⟩
    case round =>
      clear H0 SA0 SP0 lab0 I0
      obtain ⟨i, lab, I, T, mB, mW, rfl, hi, hp, sa, sp⟩ := hrel
      obtain ⟨zB, hzB1, hzB2⟩ := sa.mB
      obtain ⟨zM, hzM1, hzM2⟩ := sa.mW
      obtain ⟨zW, hzW1, hzW2⟩ := sa.rW
      obtain ⟨aM, cM, e1⟩ := hp.sl hzB1
      obtain ⟨aV, cV, e2⟩ := hp.sl hzM1
      subst e1 e2
      have HP := hide hp
      have SAH := hide sa
      have SPH := hide sp
      have y0 := hp.l (j := 0) rfl
      by_cases hlt : i < nb
      · have d1 : decide ((i : Int) < (nb : Int)) = true := decide_eq_true (by omega)
        have d2 : (i : Int) < (nb : Int) := by omega
        have hib : i < bs.length := by have := HNB.out; omega
        obtain ⟨g, c, eg⟩ := HX.out i hib
        have hit := sa.todo i hib (Nat.le_refl _)
        rw [eg] at hit
        have hTn := sa.tn (100 + i) (by omega) (by omega)
        have lX := HL1.out bs[i] (List.getElem_mem hib)
        have rB := sa.rB
        have rBi : (bs.map (·.1))[i]? = some (.slice (some ⟨g, 0, none⟩) 1024 c) := by rw [← eg]; simp [hib]
        obtain ⟨X, hX⟩ : ∃ z, z = bs[i].2 := ⟨_, rfl⟩
        rw [← hX] at hit lX
        have EG := hide eg
        have HIT := hide hit
        have HTN := hide hTn
        have RB := hide (show I 1 = some ⟨22, 1, .slice (some ⟨gB, 0, none⟩) nb cB, nb, bs.map (·.1)⟩ by have := HNB.out; rw [rB, ← this])
        have RBI := hide rBi
        have LX := hide lX
        have FB := hide (show True ∧ (∀ j, j < i → ∃ v, zB[j]? = some v ∧ I (100 + j) = some ⟨5, 1, v, 1026, byV (rep 1026 j)⟩) ∧ (∀ j, j < i → zM[j]? = some (.string (strOf (rep 1026 j)))) ∧ (∀ j, j < i → zW[j]? = some (.string (strOf (rep 1024 j)))) ∧ zB.length = i ∧ zM.length = i ∧ zW.length = nb from ⟨trivial, hzB2, hzM2, hzW2, hp.len hzB1, hp.len hzM1, by have := hp.len hzW1; have := HNB.out; omega⟩)
        have I21 := hide hzB1
        have I22 := hide hzM1
        have I2 := hide (show I 2 = some ⟨9, 1, .slice (some ⟨gW, 0, none⟩) nb cW, nb, zW⟩ by have := HNB.out; rw [hzW1, ← this])
        clear hzB1 hzB2 hzM1 hzM2 hzW1 hzW2 eg hit hTn lX rB rBi hX sa sp hp
        go_wp2_with fail
        clear y0
        go_loopw [5] (fun v wz => ∃ (k : Nat) (Y : List Nat), v = .int .i64 (k : Int) ∧ k ≤ 1024 ∧ Y.length = 1024 ∧ (∀ j, j < k → Y[j]? = some i) ∧ Hp w0 B L M wz lab (put I (100 + i) (itB (.slice (some ⟨g, 0, none⟩) 1024 c) Y)) T [.slice (some ⟨gB, 0, none⟩) nb cB, .slice (some ⟨gW, 0, none⟩) nb cW, .slice (some ⟨gP, 0, none⟩) np cP, .slice aR nr cR] [.slice aM i cM, .slice aV i cV, nilS, nilS] []) (fun v _ => 1025 - (intOf v).toNat)
        case atStart => exact ⟨0, X, rfl, Nat.zero_le _, LX.out, (fun j hj => by omega), by rw [put_self HIT.out]; exact HP.out⟩
        case round =>
          obtain ⟨k, Y, rfl, hk, hY1, hY2, hp⟩ := hrel
          have y0 := hp.l (j := 0) rfl
          have y1 := (hp.row (k := 1) (by rw [put_other _ _ (by omega)]; exact RB.out) RBI.out).1
          by_cases hlt2 : k < 1024
          · have d3 : decide ((k : Int) < 1024) = true := decide_eq_true (by omega)
            have d4 : (k : Int) < 1024 := by omega
            have e8 := u8w i (by omega)
            obtain ⟨yv, hyv⟩ : ∃ y, Y[k]? = some y := ⟨Y[k]'(by omega), by simp [show k < Y.length by omega]⟩
            obtain ⟨z0, z1⟩ := hp.row (k := 100 + i) (put_same _ _ _) (j := k) (v := .int .u8 ((yv : Nat) : Int)) (by simp [ints, hyv])
            clear hyv
            have hp2 := hp.set (key := 100 + i) (put_same _ _ _) HTN.out (by omega) k (.int .u8 (i : Int))
            rw [put_put, byV_set] at hp2
            have HP2 := hide hp2
            have Y3 := hide (get_set hY1 hlt2 (f := fun _ => i) rfl hY2)
            have Y4 := hide (show (Y.set k i).length = 1024 by simpa using hY1)
            clear hp hp2 hY1 hY2
            go_wp2_with fail
            go_roundw
            case rel => exact ⟨k + 1, Y.set k i, by go_num, by omega, Y4.out, Y3.out, HP2.out⟩
            case measure => simp [intOf]; omega
          · obtain rfl : k = 1024 := by omega
            have d3 : decide ((1024 : Int) < 1024) = false := by decide
            have eY := rep_of hY1 hY2
            subst eY
            have HP9 := hide hp
            clear hp hY1 hY2
            obtain ⟨wx, hwx⟩ : ∃ x, x = wr := ⟨_, rfl⟩
            subst hwx
            obtain ⟨S1, hS1⟩ : ∃ z, z = strOf (rep 1024 i) := ⟨_, rfl⟩
            have HS1 := hide hS1
            clear hS1
            have CVA := hide (show ∀ wz, Lies wz (some ⟨g, 0, none⟩) (byV (rep 1024 i)) → (convert 22 9 (.slice (some ⟨g, 0, none⟩) 1024 c)).run Tryd.prog wz = .ok (.string S1) wz from fun wz hz => by rw [HS1.out]; exact conv_rep hz (by simp))
            go_upto_region 9 with fail
            clear y0 y1 d3
            have HD := hide (HP9.out.below (Below.refl _ _).drew)
            have hnW : i < zW.length := by have := FB.out.2.2.2.2.2.2; omega
            obtain ⟨x0, x1⟩ := HD.out.row (k := 2) (by rw [put_other _ _ (by omega)]; exact I2.out) (j := i) (v := zW[i]) (by simp [hnW])
            have HP10 := hide (HD.out.set (key := 2) (by rw [put_other _ _ (by omega)]; exact I2.out) (SAH.out.tn 2 (by omega) (by omega)) (by omega) i (.string S1))
            have XZ := hide (And.intro x0 x1)
            clear x0 x1
            have SX := hide (show (wx.drew.cell? ⟨L, 0, none⟩ = some (.slice (some ⟨gB, 0, none⟩) nb cB) ∧ wx.drew.cell? ⟨L, 1, none⟩ = some (.slice (some ⟨gW, 0, none⟩) nb cW) ∧ wx.drew.cell? ⟨gB, i, none⟩ = some (.slice (some ⟨g, 0, none⟩) 1024 c) ∧ (convert 22 9 (.slice (some ⟨g, 0, none⟩) 1024 c)).run Tryd.prog wx.drew = .ok (.string S1) wx.drew) ∧
              ((wx.drew.setCell ⟨gW, i, none⟩ (.string S1)).cell? ⟨L, 0, none⟩ = some (.slice (some ⟨gB, 0, none⟩) nb cB) ∧ (wx.drew.setCell ⟨gW, i, none⟩ (.string S1)).cell? ⟨L, 1, none⟩ = some (.slice (some ⟨gW, 0, none⟩) nb cW) ∧ (wx.drew.setCell ⟨gW, i, none⟩ (.string S1)).cell? ⟨gB, i, none⟩ = some (.slice (some ⟨g, 0, none⟩) 1024 c) ∧ (convert 22 9 (.slice (some ⟨g, 0, none⟩) 1024 c)).run Tryd.prog (wx.drew.setCell ⟨gW, i, none⟩ (.string S1)) = .ok (.string S1) (wx.drew.setCell ⟨gW, i, none⟩ (.string S1))) from
              ⟨⟨HD.out.l (j := 0) rfl, HD.out.l (j := 1) rfl, (HD.out.row (k := 1) (by rw [put_other _ _ (by omega)]; exact RB.out) RBI.out).1, CVA.out _ (HD.out.lies (put_same _ _ _))⟩, ⟨HP10.out.l (j := 0) rfl, HP10.out.l (j := 1) rfl, (HP10.out.row (k := 1) (by rw [put_other _ _ (by omega), put_other _ _ (by omega)]; exact RB.out) RBI.out).1, CVA.out _ (HP10.out.lies (k := 100 + i) (by rw [put_other _ _ (by omega), put_same]))⟩⟩)
            refine wp_region_held_drew (S := fun wq : World => wq.cell? ⟨L, 0, none⟩ = some (.slice (some ⟨gB, 0, none⟩) nb cB) ∧ wq.cell? ⟨L, 1, none⟩ = some (.slice (some ⟨gW, 0, none⟩) nb cW) ∧ wq.cell? ⟨gB, i, none⟩ = some (.slice (some ⟨g, 0, none⟩) 1024 c) ∧ (convert 22 9 (.slice (some ⟨g, 0, none⟩) 1024 c)).run Tryd.prog wq = .ok (.string S1) wq) (by kernel_rfl) SX.out.1 (fun hS => ?_)
            generalize wx.drew = we at *
            refine take_at 0 (some 47) (v := ?_) rfl rfl (by kernel_rfl) (by kernel_rfl) (by kernel_rfl) (fun _ _ _ h => h) ⟨by rfl, ?_⟩ hS ?_
            rotate_left
            · intro wq hSw; go_simp; try rfl
            simp only [Act.put, List.setIfInBounds_toArray, List.set_cons_zero, List.set_cons_succ]
            refine take_at 1 (some 48) (v := ?_) rfl rfl (by kernel_rfl) (by kernel_rfl) (by kernel_rfl) (fun _ _ _ h => h) ⟨by rfl, ?_⟩ hS ?_
            rotate_left
            · intro wq hSw; go_simp; try rfl
            simp only [Act.put, List.setIfInBounds_toArray, List.set_cons_zero, List.set_cons_succ]
            refine take_at 2 (some 49) (v := ?_) rfl rfl (by kernel_rfl) (by kernel_rfl) (by kernel_rfl) (fun _ _ _ h => h) ⟨by rfl, ?_⟩ hS ?_
            rotate_left
            · intro wq hSw; go_simp; try rfl
            simp only [Act.put, List.setIfInBounds_toArray, List.set_cons_zero, List.set_cons_succ]
            refine take_at 3 (some 50) (v := ?_) rfl rfl (by kernel_rfl) (by kernel_rfl) (by kernel_rfl) (fun _ _ _ h => h) ⟨by rfl, ?_⟩ hS ?_
            rotate_left
            · intro wq hSw; obtain ⟨q0, q1, q2, q3⟩ := hSw; go_simp; try rfl
            simp only [Act.put, List.setIfInBounds_toArray, List.set_cons_zero, List.set_cons_succ]
            refine take_at 4 (some 51) (v := ?_) rfl rfl (by kernel_rfl) (by kernel_rfl) (by kernel_rfl) (fun _ _ _ h => h) ⟨by rfl, ?_⟩ hS ?_
            rotate_left
            · intro wq hSw; go_simp; try rfl
            simp only [Act.put, List.setIfInBounds_toArray, List.set_cons_zero, List.set_cons_succ]
            refine take_at 5 (some 52) (v := ?_) rfl rfl (by kernel_rfl) (by kernel_rfl) (by kernel_rfl) (fun _ _ _ h => h) ⟨by rfl, ?_⟩ hS ?_
            rotate_left
            · intro wq hSw; go_simp; try rfl
            simp only [Act.put, List.setIfInBounds_toArray, List.set_cons_zero, List.set_cons_succ]
            refine take_at 6 (some 53) (v := ?_) rfl rfl (by kernel_rfl) (by kernel_rfl) (by kernel_rfl) (fun _ _ _ h => h) ⟨by rfl, ?_⟩ hS ?_
            rotate_left
            · intro wq hSw; go_simp; try rfl
            simp only [Act.put, List.setIfInBounds_toArray, List.set_cons_zero, List.set_cons_succ]
            refine take_at 7 (some 54) (v := ?_) rfl rfl (by kernel_rfl) (by kernel_rfl) (by kernel_rfl) (fun _ _ _ h => h) ⟨by rfl, ?_⟩ hS ?_
            rotate_left
            · intro wq hSw; go_simp; try rfl
            simp only [Act.put, List.setIfInBounds_toArray, List.set_cons_zero, List.set_cons_succ]
            refine take_at 8 (some 55) (v := ?_) rfl rfl (by kernel_rfl) (by kernel_rfl) (by kernel_rfl) (fun _ _ _ h => h) ⟨by rfl, ?_⟩ hS ?_
            rotate_left
            · intro wq hSw; obtain ⟨q0, q1, q2, q3⟩ := hSw; go_simp; try rfl
            simp only [Act.put, List.setIfInBounds_toArray, List.set_cons_zero, List.set_cons_succ]
            refine take_at 9 (some 56) (v := ?_) rfl rfl (by kernel_rfl) (by kernel_rfl) (by kernel_rfl) (fun _ _ _ h => h) ⟨by rfl, ?_⟩ hS ?_
            rotate_left
            · intro wq hSw; go_simp; try rfl
            simp only [Act.put, List.setIfInBounds_toArray, List.set_cons_zero, List.set_cons_succ]
            refine take_at 10 (some 57) (v := ?_) rfl rfl (by kernel_rfl) (by kernel_rfl) (by kernel_rfl) (fun _ _ _ h => h) ⟨by rfl, ?_⟩ hS ?_
            rotate_left
            · intro wq hSw; go_simp; try rfl
            simp only [Act.put, List.setIfInBounds_toArray, List.set_cons_zero, List.set_cons_succ]
            refine take_at 11 (some 58) (v := ?_) rfl rfl (by kernel_rfl) (by kernel_rfl) (by kernel_rfl) (fun _ _ _ h => h) ⟨by rfl, ?_⟩ hS ?_
            rotate_left
            · intro wq hSw; obtain ⟨q0, q1, q2, q3⟩ := hSw; go_simp; try rfl
            simp only [Act.put, List.setIfInBounds_toArray, List.set_cons_zero, List.set_cons_succ]
            refine take_at 12 (some 59) (v := ?_) rfl rfl (by kernel_rfl) (by kernel_rfl) (by kernel_rfl) (fun _ _ _ h => h) ⟨by rfl, ?_⟩ hS ?_
            rotate_left
            · intro wq hSw; obtain ⟨q0, q1, q2, q3⟩ := hSw; go_simp; try rfl
            simp only [Act.put, List.setIfInBounds_toArray, List.set_cons_zero, List.set_cons_succ]
            refine take_at 13 (some 60) (v := ?_) rfl rfl (by kernel_rfl) (by kernel_rfl) (by kernel_rfl) (fun _ _ _ h => h) ⟨by rfl, ?_⟩ hS ?_
            rotate_left
            · intro wq hSw; go_simp; try rfl
            simp only [Act.put, List.setIfInBounds_toArray, List.set_cons_zero, List.set_cons_succ]
            refine wpAnyH_ready (rs := [14]) (by kernel_rfl) (by simp) ?_
            refine AllReadyH.cons rfl (fun K hK => ?_) AllReadyH.nil
            have x0 := XZ.out.1
            have x1 := XZ.out.2
            go_simp
            go_wp2_with fail
            refine hK.out _ _ SX.out.2 (fun hS => ?_)
            clear hK K
            (try simp only [Act.put, List.setIfInBounds_toArray, List.set_cons_zero, List.set_cons_succ])
            refine wpAnyH_done (by kernel_rfl) ?_ _
            clear hS SX XZ HD HP9
            go_upto_region 10 with fail
            have Q0 := hide (HP10.out.below (Below.refl _ _).drew)
            obtain ⟨wy, hwy⟩ : ∃ z : World, z = we.setCell ⟨gW, i, none⟩ (.string S1) := ⟨_, rfl⟩
            rw [← hwy] at Q0 ⊢
            clear hwy HP10
            obtain ⟨J, hJ⟩ : ∃ z, z = put (put I (100 + i) (itB (.slice (some ⟨g, 0, none⟩) 1024 c) (rep 1024 i))) 2 ⟨9, 1, .slice (some ⟨gW, 0, none⟩) nb cW, nb, zW.set i (.string S1)⟩ := ⟨_, rfl⟩
            have JJ := hide (show J (100 + i) = some (itB (.slice (some ⟨g, 0, none⟩) 1024 c) (rep 1024 i)) ∧ J 1 = some ⟨22, 1, .slice (some ⟨gB, 0, none⟩) nb cB, nb, bs.map (·.1)⟩ ∧ J 21 = some ⟨22, 1, .slice aM i cM, i, zB⟩ ∧ J 22 = some ⟨9, 1, .slice aV i cV, i, zM⟩ ∧ J 2 = some ⟨9, 1, .slice (some ⟨gW, 0, none⟩) nb cW, nb, zW.set i (.string S1)⟩ ∧ ∀ k, k ≠ 100 + i → k ≠ 2 → J k = I k from by
              rw [hJ]
              refine ⟨by rw [put_other _ _ (by omega), put_same], by rw [put_other _ _ (by omega), put_other _ _ (by omega)]; exact RB.out, by rw [put_other _ _ (by omega), put_other _ _ (by omega)]; exact I21.out, by rw [put_other _ _ (by omega), put_other _ _ (by omega)]; exact I22.out, put_same _ _ _, fun k h1 h2 => by rw [put_other _ _ h2, put_other _ _ h1]⟩)
            rw [← hJ] at Q0
            clear hJ
            have hT21 := SAH.out.tn 21 (by omega) (by omega)
            have hT22 := SAH.out.tn 22 (by omega) (by omega)
            obtain ⟨wd, hwd⟩ : ∃ z : World, z = wy.drew := ⟨_, rfl⟩
            rw [← hwd] at Q0
            have HWD := hide hwd
            clear hwd
            have Q1 := hide (Q0.out.below (alloc_below wd (.cells #[.int .u8 (i : Int), .int .u8 (i : Int)] 5)))
            obtain ⟨v1, x1, r1, ⟨a1, c1, e1⟩, -, -, hh⟩ := Q1.out.push (t0 := 22) Tryd.underlying22 inf5 rfl (by decide) (by decide) 22 (key := 100 + i) (by omega) HTN.out JJ.out.1 ⟨wd.heap.size, 0, none⟩ 2 2 [.int .u8 (i : Int), .int .u8 (i : Int)] rfl (lies_cells2 wd #[.int .u8 (i : Int), .int .u8 (i : Int)] 5) (by simp [Value.oneCell']) (by omega)
            subst e1
            have Q2 := hide (hh _ _ rfl)
            have R1 := hide r1
            clear hh r1
            have Q3 := hide (Q2.out.below (alloc_below x1 (.cells #[.slice a1 (1024 + 2) c1] 22)))
            obtain ⟨v2, x2, r2, ⟨a2, c2, e2⟩, -, hh, -⟩ := Q3.out.push (t0 := 47) Tryd.underlying47 inf22 rfl (by decide) (by decide) 47 (key := 21) (by omega) (by rw [tput_other _ _ (by omega)]; exact hT21) (by rw [put_other _ _ (by omega)]; exact JJ.out.2.2.1) ⟨x1.heap.size, 0, none⟩ 1 1 [.slice a1 (1024 + 2) c1] rfl (lies_cells2 x1 #[.slice a1 (1024 + 2) c1] 22) (by simp [Value.oneCell']) (by omega)
            subst e2
            have Q4 := hide hh
            have R2 := hide r2
            clear hh r2
            have Q5 := hide (Q4.out.mset (j := 0) (by simp) (.slice a2 (i + 1) c2))
            simp only [List.set_cons_zero] at Q5
            have SX := hide (show (wd.cell? ⟨L, 0, none⟩ = some (.slice (some ⟨gB, 0, none⟩) nb cB) ∧ wd.cell? ⟨gB, i, none⟩ = some (.slice (some ⟨g, 0, none⟩) 1024 c)) ∧ ((wd.alloc (.cells #[.int .u8 (i : Int), .int .u8 (i : Int)] 5)).cell? ⟨L, 0, none⟩ = some (.slice (some ⟨gB, 0, none⟩) nb cB) ∧ (wd.alloc (.cells #[.int .u8 (i : Int), .int .u8 (i : Int)] 5)).cell? ⟨gB, i, none⟩ = some (.slice (some ⟨g, 0, none⟩) 1024 c)) ∧ (x1.cell? ⟨L, 0, none⟩ = some (.slice (some ⟨gB, 0, none⟩) nb cB) ∧ x1.cell? ⟨gB, i, none⟩ = some (.slice (some ⟨g, 0, none⟩) 1024 c)) ∧ ((x1.alloc (.cells #[.slice a1 (1024 + 2) c1] 22)).cell? ⟨L, 0, none⟩ = some (.slice (some ⟨gB, 0, none⟩) nb cB) ∧ (x1.alloc (.cells #[.slice a1 (1024 + 2) c1] 22)).cell? ⟨gB, i, none⟩ = some (.slice (some ⟨g, 0, none⟩) 1024 c)) ∧ (x2.cell? ⟨L, 0, none⟩ = some (.slice (some ⟨gB, 0, none⟩) nb cB) ∧ x2.cell? ⟨gB, i, none⟩ = some (.slice (some ⟨g, 0, none⟩) 1024 c)) ∧ ((x2.setCell ⟨M, 0, none⟩ (.slice a2 (i + 1) c2)).cell? ⟨L, 0, none⟩ = some (.slice (some ⟨gB, 0, none⟩) nb cB) ∧ (x2.setCell ⟨M, 0, none⟩ (.slice a2 (i + 1) c2)).cell? ⟨gB, i, none⟩ = some (.slice (some ⟨g, 0, none⟩) 1024 c)) from ⟨⟨Q0.out.l (j := 0) rfl, (Q0.out.row (k := 1) (by skip; exact JJ.out.2.1) RBI.out).1⟩, ⟨Q1.out.l (j := 0) rfl, (Q1.out.row (k := 1) (by skip; exact JJ.out.2.1) RBI.out).1⟩, ⟨Q2.out.l (j := 0) rfl, (Q2.out.row (k := 1) (by (repeat rw [put_other _ _ (by omega)]); exact JJ.out.2.1) RBI.out).1⟩, ⟨Q3.out.l (j := 0) rfl, (Q3.out.row (k := 1) (by (repeat rw [put_other _ _ (by omega)]); exact JJ.out.2.1) RBI.out).1⟩, ⟨Q4.out.l (j := 0) rfl, (Q4.out.row (k := 1) (by (repeat rw [put_other _ _ (by omega)]); exact JJ.out.2.1) RBI.out).1⟩, ⟨Q5.out.l (j := 0) rfl, (Q5.out.row (k := 1) (by (repeat rw [put_other _ _ (by omega)]); exact JJ.out.2.1) RBI.out).1⟩⟩)
            have KX := hide (And.intro (Q0.out.m (j := 0) rfl).1 (And.intro (Q1.out.m (j := 0) rfl).1 (And.intro (Q2.out.m (j := 0) rfl).1 (And.intro (Q3.out.m (j := 0) rfl).1 (Q4.out.m (j := 0) rfl)))))
            clear Q0 Q1 Q2 Q3 Q4
            (try simp only [Act.put])
            go_cut [77] (fun _ w' => w' = (x2.setCell ⟨M, 0, none⟩ (.slice a2 (i + 1) c2)))
            case first =>
              refine wp_region_held_drew (S := fun wq : World => wq.cell? ⟨L, 0, none⟩ = some (.slice (some ⟨gB, 0, none⟩) nb cB) ∧ wq.cell? ⟨gB, i, none⟩ = some (.slice (some ⟨g, 0, none⟩) 1024 c)) (by kernel_rfl) (by rw [← HWD.out]; exact SX.out.1) (fun hS => ?_)
              rw [← HWD.out] at hS ⊢
              clear HWD
              have e8 := u8w i (by omega)
              refine take_at 0 (some 61) (v := ?_) rfl rfl (by kernel_rfl) (by kernel_rfl) (by kernel_rfl) (fun _ _ _ h => h) ⟨by rfl, ?_⟩ hS ?_
              rotate_left
              · intro wq hSw; go_simp; try rfl
              simp only [Act.put, List.setIfInBounds_toArray, List.set_cons_zero, List.set_cons_succ]
              refine take_at 2 (some 63) (v := ?_) rfl rfl (by kernel_rfl) (by kernel_rfl) (by kernel_rfl) (fun _ _ _ h => h) ⟨by rfl, ?_⟩ hS ?_
              rotate_left
              · intro wq hSw; go_simp; try rfl
              simp only [Act.put, List.setIfInBounds_toArray, List.set_cons_zero, List.set_cons_succ]
              refine take_at 3 (some 64) (v := ?_) rfl rfl (by kernel_rfl) (by kernel_rfl) (by kernel_rfl) (fun _ _ _ h => h) ⟨by rfl, ?_⟩ hS ?_
              rotate_left
              · intro wq hSw; go_simp; try rfl
              simp only [Act.put, List.setIfInBounds_toArray, List.set_cons_zero, List.set_cons_succ]
              refine take_at 4 (some 65) (v := ?_) rfl rfl (by kernel_rfl) (by kernel_rfl) (by kernel_rfl) (fun _ _ _ h => h) ⟨by rfl, ?_⟩ hS ?_
              rotate_left
              · intro wq hSw; go_simp; try rfl
              simp only [Act.put, List.setIfInBounds_toArray, List.set_cons_zero, List.set_cons_succ]
              refine take_at 5 (some 66) (v := ?_) rfl rfl (by kernel_rfl) (by kernel_rfl) (by kernel_rfl) (fun _ _ _ h => h) ⟨by rfl, ?_⟩ hS ?_
              rotate_left
              · intro wq hSw; obtain ⟨q0, q1⟩ := hSw; go_simp; try rfl
              simp only [Act.put, List.setIfInBounds_toArray, List.set_cons_zero, List.set_cons_succ]
              refine take_at 6 (some 67) (v := ?_) rfl rfl (by kernel_rfl) (by kernel_rfl) (by kernel_rfl) (fun _ _ _ h => h) ⟨by rfl, ?_⟩ hS ?_
              rotate_left
              · intro wq hSw; go_simp; try rfl
              simp only [Act.put, List.setIfInBounds_toArray, List.set_cons_zero, List.set_cons_succ]
              refine take_at 7 (some 68) (v := ?_) rfl rfl (by kernel_rfl) (by kernel_rfl) (by kernel_rfl) (fun _ _ _ h => h) ⟨by rfl, ?_⟩ hS ?_
              rotate_left
              · intro wq hSw; go_simp; try rfl
              simp only [Act.put, List.setIfInBounds_toArray, List.set_cons_zero, List.set_cons_succ]
              refine take_at 8 (some 69) (v := ?_) rfl rfl (by kernel_rfl) (by kernel_rfl) (by kernel_rfl) (fun _ _ _ h => h) ⟨by rfl, ?_⟩ hS ?_
              rotate_left
              · intro wq hSw; obtain ⟨q0, q1⟩ := hSw; go_simp; try rfl
              simp only [Act.put, List.setIfInBounds_toArray, List.set_cons_zero, List.set_cons_succ]
              refine take_at 9 (some 70) (v := ?_) rfl rfl (by kernel_rfl) (by kernel_rfl) (by kernel_rfl) (fun _ _ _ h => h) ⟨by rfl, ?_⟩ hS ?_
              rotate_left
              · intro wq hSw; go_simp; try rfl
              simp only [Act.put, List.setIfInBounds_toArray, List.set_cons_zero, List.set_cons_succ]
              refine take_at 10 (some 71) (v := ?_) rfl rfl (by kernel_rfl) (by kernel_rfl) (by kernel_rfl) (fun _ _ _ h => h) ⟨by rfl, ?_⟩ hS ?_
              rotate_left
              · intro wq hSw; go_simp; try rfl
              simp only [Act.put, List.setIfInBounds_toArray, List.set_cons_zero, List.set_cons_succ]
              refine take_at 11 (some 72) (v := ?_) rfl rfl (by kernel_rfl) (by kernel_rfl) (by kernel_rfl) (fun _ _ _ h => h) ⟨by rfl, ?_⟩ hS ?_
              rotate_left
              · intro wq hSw; go_simp; try rfl
              simp only [Act.put, List.setIfInBounds_toArray, List.set_cons_zero, List.set_cons_succ]
              refine take_at 12 (some 73) (v := ?_) rfl rfl (by kernel_rfl) (by kernel_rfl) (by kernel_rfl) (fun _ _ _ h => h) ⟨by rfl, ?_⟩ hS ?_
              rotate_left
              · intro wq hSw; go_simp; try rfl
              simp only [Act.put, List.setIfInBounds_toArray, List.set_cons_zero, List.set_cons_succ]
              refine wpAnyH_ready (rs := [1, 13]) (by kernel_rfl) (by simp) ?_
              refine AllReadyH.cons rfl (fun K hK => ?_) (AllReadyH.cons rfl (fun K hK => ?_) AllReadyH.nil)
              · have cl := KX.out.1
                go_simp
                go_wp2_with fail
                refine hK.out _ _ SX.out.1 (fun hS => ?_)
                clear hK K
                (try simp only [Act.put, List.setIfInBounds_toArray, List.set_cons_zero, List.set_cons_succ])
                clear cl
                refine wpAnyH_ready (rs := [13]) (by kernel_rfl) (by simp) ?_
                refine AllReadyH.cons rfl (fun K hK => ?_) AllReadyH.nil
                go_simp
                (try go_wp2_with fail)
                refine hK.out _ _ SX.out.2.1 (fun hS => ?_)
                clear hK K
                (try simp only [Act.put, List.setIfInBounds_toArray, List.set_cons_zero, List.set_cons_succ])
                refine wpAnyH_ready (rs := [14]) (by kernel_rfl) (by simp) ?_
                refine AllReadyH.cons rfl (fun K hK => ?_) AllReadyH.nil
                refine wp_run 75 (.tmp 69) (.tmp 74) rfl rfl rfl rfl rfl R1.out ?_
                refine hK.out _ _ SX.out.2.2.1 (fun hS => ?_)
                clear hK K
                (try simp only [Act.put, List.setIfInBounds_toArray, List.set_cons_zero, List.set_cons_succ])
                refine wpAnyH_ready (rs := [15]) (by kernel_rfl) (by simp) ?_
                refine AllReadyH.cons rfl (fun K hK => ?_) AllReadyH.nil
                go_simp
                (try go_wp2_with fail)
                refine hK.out _ _ SX.out.2.2.2.1 (fun hS => ?_)
                clear hK K
                (try simp only [Act.put, List.setIfInBounds_toArray, List.set_cons_zero, List.set_cons_succ])
                refine wpAnyH_ready (rs := [16]) (by kernel_rfl) (by simp) ?_
                refine AllReadyH.cons rfl (fun K hK => ?_) AllReadyH.nil
                refine wp_run 77 (.tmp 62) (.tmp 76) rfl rfl rfl rfl rfl R2.out ?_
                refine hK.out _ _ SX.out.2.2.2.2.1 (fun hS => ?_)
                clear hK K
                (try simp only [Act.put, List.setIfInBounds_toArray, List.set_cons_zero, List.set_cons_succ])
                refine take_at 17 (some 78) (v := ?_) rfl rfl (by kernel_rfl) (by kernel_rfl) (by kernel_rfl) (fun _ _ _ h => h) ⟨by rfl, ?_⟩ hS ?_
                rotate_left
                · intro wq hSw; go_simp; try rfl
                simp only [Act.put, List.setIfInBounds_toArray, List.set_cons_zero, List.set_cons_succ]
                refine wpAnyH_ready (rs := [18]) (by kernel_rfl) (by simp) ?_
                refine AllReadyH.cons rfl (fun K hK => ?_) AllReadyH.nil
                have k2 := KX.out.2.2.2.2.1
                have k3 := KX.out.2.2.2.2.2
                go_simp
                go_wp2_with fail
                refine hK.out _ _ SX.out.2.2.2.2.2 (fun hS => ?_)
                clear hK K
                (try simp only [Act.put, List.setIfInBounds_toArray, List.set_cons_zero, List.set_cons_succ])
                refine wpAnyH_done (by kernel_rfl) ?_ _
                go_wp2_with fail
                go_meet
                rfl
              · go_simp
                (try go_wp2_with fail)
                refine hK.out _ _ SX.out.2.1 (fun hS => ?_)
                clear hK K
                (try simp only [Act.put, List.setIfInBounds_toArray, List.set_cons_zero, List.set_cons_succ])
                refine wpAnyH_ready (rs := [1, 14]) (by kernel_rfl) (by simp) ?_
                refine AllReadyH.cons rfl (fun K hK => ?_) (AllReadyH.cons rfl (fun K hK => ?_) AllReadyH.nil)
                · have cl := KX.out.2.1
                  go_simp
                  go_wp2_with fail
                  refine hK.out _ _ SX.out.2.1 (fun hS => ?_)
                  clear hK K
                  (try simp only [Act.put, List.setIfInBounds_toArray, List.set_cons_zero, List.set_cons_succ])
                  clear cl
                  refine wpAnyH_ready (rs := [14]) (by kernel_rfl) (by simp) ?_
                  refine AllReadyH.cons rfl (fun K hK => ?_) AllReadyH.nil
                  refine wp_run 75 (.tmp 69) (.tmp 74) rfl rfl rfl rfl rfl R1.out ?_
                  refine hK.out _ _ SX.out.2.2.1 (fun hS => ?_)
                  clear hK K
                  (try simp only [Act.put, List.setIfInBounds_toArray, List.set_cons_zero, List.set_cons_succ])
                  refine wpAnyH_ready (rs := [15]) (by kernel_rfl) (by simp) ?_
                  refine AllReadyH.cons rfl (fun K hK => ?_) AllReadyH.nil
                  go_simp
                  (try go_wp2_with fail)
                  refine hK.out _ _ SX.out.2.2.2.1 (fun hS => ?_)
                  clear hK K
                  (try simp only [Act.put, List.setIfInBounds_toArray, List.set_cons_zero, List.set_cons_succ])
                  refine wpAnyH_ready (rs := [16]) (by kernel_rfl) (by simp) ?_
                  refine AllReadyH.cons rfl (fun K hK => ?_) AllReadyH.nil
                  refine wp_run 77 (.tmp 62) (.tmp 76) rfl rfl rfl rfl rfl R2.out ?_
                  refine hK.out _ _ SX.out.2.2.2.2.1 (fun hS => ?_)
                  clear hK K
                  (try simp only [Act.put, List.setIfInBounds_toArray, List.set_cons_zero, List.set_cons_succ])
                  refine take_at 17 (some 78) (v := ?_) rfl rfl (by kernel_rfl) (by kernel_rfl) (by kernel_rfl) (fun _ _ _ h => h) ⟨by rfl, ?_⟩ hS ?_
                  rotate_left
                  · intro wq hSw; go_simp; try rfl
                  simp only [Act.put, List.setIfInBounds_toArray, List.set_cons_zero, List.set_cons_succ]
                  refine wpAnyH_ready (rs := [18]) (by kernel_rfl) (by simp) ?_
                  refine AllReadyH.cons rfl (fun K hK => ?_) AllReadyH.nil
                  have k2 := KX.out.2.2.2.2.1
                  have k3 := KX.out.2.2.2.2.2
                  go_simp
                  go_wp2_with fail
                  refine hK.out _ _ SX.out.2.2.2.2.2 (fun hS => ?_)
                  clear hK K
                  (try simp only [Act.put, List.setIfInBounds_toArray, List.set_cons_zero, List.set_cons_succ])
                  refine wpAnyH_done (by kernel_rfl) ?_ _
                  go_wp2_with fail
                  go_meet
                  rfl
                · refine wp_run 75 (.tmp 69) (.tmp 74) rfl rfl rfl rfl rfl R1.out ?_
                  refine hK.out _ _ SX.out.2.2.1 (fun hS => ?_)
                  clear hK K
                  (try simp only [Act.put, List.setIfInBounds_toArray, List.set_cons_zero, List.set_cons_succ])
                  refine wpAnyH_ready (rs := [1, 15]) (by kernel_rfl) (by simp) ?_
                  refine AllReadyH.cons rfl (fun K hK => ?_) (AllReadyH.cons rfl (fun K hK => ?_) AllReadyH.nil)
                  · have cl := KX.out.2.2.1
                    go_simp
                    go_wp2_with fail
                    refine hK.out _ _ SX.out.2.2.1 (fun hS => ?_)
                    clear hK K
                    (try simp only [Act.put, List.setIfInBounds_toArray, List.set_cons_zero, List.set_cons_succ])
                    clear cl
                    refine wpAnyH_ready (rs := [15]) (by kernel_rfl) (by simp) ?_
                    refine AllReadyH.cons rfl (fun K hK => ?_) AllReadyH.nil
                    go_simp
                    (try go_wp2_with fail)
                    refine hK.out _ _ SX.out.2.2.2.1 (fun hS => ?_)
                    clear hK K
                    (try simp only [Act.put, List.setIfInBounds_toArray, List.set_cons_zero, List.set_cons_succ])
                    refine wpAnyH_ready (rs := [16]) (by kernel_rfl) (by simp) ?_
                    refine AllReadyH.cons rfl (fun K hK => ?_) AllReadyH.nil
                    refine wp_run 77 (.tmp 62) (.tmp 76) rfl rfl rfl rfl rfl R2.out ?_
                    refine hK.out _ _ SX.out.2.2.2.2.1 (fun hS => ?_)
                    clear hK K
                    (try simp only [Act.put, List.setIfInBounds_toArray, List.set_cons_zero, List.set_cons_succ])
                    refine take_at 17 (some 78) (v := ?_) rfl rfl (by kernel_rfl) (by kernel_rfl) (by kernel_rfl) (fun _ _ _ h => h) ⟨by rfl, ?_⟩ hS ?_
                    rotate_left
                    · intro wq hSw; go_simp; try rfl
                    simp only [Act.put, List.setIfInBounds_toArray, List.set_cons_zero, List.set_cons_succ]
                    refine wpAnyH_ready (rs := [18]) (by kernel_rfl) (by simp) ?_
                    refine AllReadyH.cons rfl (fun K hK => ?_) AllReadyH.nil
                    have k2 := KX.out.2.2.2.2.1
                    have k3 := KX.out.2.2.2.2.2
                    go_simp
                    go_wp2_with fail
                    refine hK.out _ _ SX.out.2.2.2.2.2 (fun hS => ?_)
                    clear hK K
                    (try simp only [Act.put, List.setIfInBounds_toArray, List.set_cons_zero, List.set_cons_succ])
                    refine wpAnyH_done (by kernel_rfl) ?_ _
                    go_wp2_with fail
                    go_meet
                    rfl
                  · go_simp
                    (try go_wp2_with fail)
                    refine hK.out _ _ SX.out.2.2.2.1 (fun hS => ?_)
                    clear hK K
                    (try simp only [Act.put, List.setIfInBounds_toArray, List.set_cons_zero, List.set_cons_succ])
                    refine wpAnyH_ready (rs := [1]) (by kernel_rfl) (by simp) ?_
                    refine AllReadyH.cons rfl (fun K hK => ?_) AllReadyH.nil
                    have cl := KX.out.2.2.2.1
                    go_simp
                    go_wp2_with fail
                    refine hK.out _ _ SX.out.2.2.2.1 (fun hS => ?_)
                    clear hK K
                    (try simp only [Act.put, List.setIfInBounds_toArray, List.set_cons_zero, List.set_cons_succ])
                    clear cl
                    refine wpAnyH_ready (rs := [16]) (by kernel_rfl) (by simp) ?_
                    refine AllReadyH.cons rfl (fun K hK => ?_) AllReadyH.nil
                    refine wp_run 77 (.tmp 62) (.tmp 76) rfl rfl rfl rfl rfl R2.out ?_
                    refine hK.out _ _ SX.out.2.2.2.2.1 (fun hS => ?_)
                    clear hK K
                    (try simp only [Act.put, List.setIfInBounds_toArray, List.set_cons_zero, List.set_cons_succ])
                    refine take_at 17 (some 78) (v := ?_) rfl rfl (by kernel_rfl) (by kernel_rfl) (by kernel_rfl) (fun _ _ _ h => h) ⟨by rfl, ?_⟩ hS ?_
                    rotate_left
                    · intro wq hSw; go_simp; try rfl
                    simp only [Act.put, List.setIfInBounds_toArray, List.set_cons_zero, List.set_cons_succ]
                    refine wpAnyH_ready (rs := [18]) (by kernel_rfl) (by simp) ?_
                    refine AllReadyH.cons rfl (fun K hK => ?_) AllReadyH.nil
                    have k2 := KX.out.2.2.2.2.1
                    have k3 := KX.out.2.2.2.2.2
                    go_simp
                    go_wp2_with fail
                    refine hK.out _ _ SX.out.2.2.2.2.2 (fun hS => ?_)
                    clear hK K
                    (try simp only [Act.put, List.setIfInBounds_toArray, List.set_cons_zero, List.set_cons_succ])
                    refine wpAnyH_done (by kernel_rfl) ?_ _
                    go_wp2_with fail
                    go_meet
                    rfl
            case rest =>
              obtain ⟨wz, hwz⟩ : ∃ z : World, z = (x2.setCell ⟨M, 0, none⟩ (.slice a2 (i + 1) c2)) := ⟨_, rfl⟩
              rw [← hwz] at Q5 hcut
              clear hwz SX KX R1 R2 HWD
              obtain rfl : wz = wc := hcut.symm
              clear hcut
              go_upto_region 11 with fail
              obtain ⟨K1, hK1⟩ : ∃ z, z = put (put J (100 + i) ⟨5, 1, .slice a1 (1024 + 2) c1, 1024 + 2, byV (rep 1024 i) ++ [.int .u8 (i : Int), .int .u8 (i : Int)]⟩) 21 ⟨22, 1, .slice a2 (i + 1) c2, i + 1, zB ++ [.slice a1 (1024 + 2) c1]⟩ := ⟨_, rfl⟩
              have KK := hide (show K1 (100 + i) = some ⟨5, 1, .slice a1 1026 c1, 1026, byV (rep 1026 i)⟩ ∧ K1 21 = some ⟨22, 1, .slice a2 (i + 1) c2, i + 1, zB ++ [.slice a1 1026 c1]⟩ ∧ K1 22 = some ⟨9, 1, .slice aV i cV, i, zM⟩ ∧ K1 2 = some ⟨9, 1, .slice (some ⟨gW, 0, none⟩) nb cW, nb, zW.set i (.string S1)⟩ ∧ ∀ k, k ≠ 100 + i → k ≠ 2 → k ≠ 21 → K1 k = I k from by
                rw [hK1]
                refine ⟨?_, put_same _ _ _, ?_, ?_, fun k h1 h2 h3 => ?_⟩
                · rw [put_other _ _ (by omega), put_same, show byV (rep 1026 i) = byV (rep 1024 i) ++ [.int .u8 (i : Int), .int .u8 (i : Int)] from by rw [← rep_app, byV_app]; rfl]
                · rw [put_other _ _ (by omega), put_other _ _ (by omega)]; exact JJ.out.2.2.2.1
                · rw [put_other _ _ (by omega), put_other _ _ (by omega)]; exact JJ.out.2.2.2.2.1
                · rw [put_other _ _ h3, put_other _ _ h1]; exact JJ.out.2.2.2.2.2 k h1 h2)
              obtain ⟨T1, hT1⟩ : ∃ z, z = tput T (100 + i) (some ⟨g, 0, none⟩, byV (rep 1024 i)) := ⟨_, rfl⟩
              have hT1n : T1 22 = none := by rw [hT1, tput_other _ _ (by omega)]; exact hT22
              have Q5b := Q5.out
              rw [← hK1, ← hT1] at Q5b
              clear Q5 JJ hK1
              have HT1 := hide hT1
              clear hT1
              have Q0 := hide (Q5b.below (Below.refl _ _).drew)
              clear Q5b
              obtain ⟨wd, hwd⟩ : ∃ z : World, z = wz.drew := ⟨_, rfl⟩
              rw [← hwd] at Q0
              have HWD := hide hwd
              clear hwd
              obtain ⟨S2, hS2⟩ : ∃ z, z = strOf [i, i] := ⟨_, rfl⟩
              obtain ⟨S3, hS3⟩ : ∃ z, z = S1 ++ S2 := ⟨_, rfl⟩
              have HS3 := hide (show S3 = strOf (rep 1026 i) by rw [hS3, HS1.out, hS2, strOf_app, rep_app])
              obtain ⟨wa, hwa⟩ : ∃ z : World, z = (wd.alloc (.cells #[.int .u8 (i : Int), .int .u8 (i : Int)] 5)) := ⟨_, rfl⟩
              have q1 := Q0.out.below (alloc_below wd (.cells #[.int .u8 (i : Int), .int .u8 (i : Int)] 5))
              rw [← hwa] at q1
              have Q1 := hide q1
              have HWA := hide hwa
              clear q1
              have CVL := hide (show (convert 22 9 (.slice (some ⟨wd.heap.size, 0, none⟩) 2 2)).run Tryd.prog wa = .ok (.string S2) wa by rw [hS2, hwa]; exact conv_rep (l := [i, i]) (lies_cells2 wd #[.int .u8 (i : Int), .int .u8 (i : Int)] 5) rfl)
              have SZ12 := hide (show ¬ (9223372036854775807 < S1.size + S2.size) by rw [HS1.out, hS2, strOf_size, strOf_size]; simp)
              have ES3 := hide hS3
              clear hS2 hS3 hwa
              have Q2 := hide (Q1.out.below (alloc_below _ (.cells #[.string S3] 9)))
              obtain ⟨v3, x3, r3, ⟨a3, c3, e3⟩, -, hh, -⟩ := Q2.out.push (t0 := 48) Tryd.underlying48 inf9 rfl (by decide) (by decide) 48 (key := 22) (by omega) hT1n KK.out.2.2.1 ⟨wa.heap.size, 0, none⟩ 1 1 [.string S3] rfl (lies_cells2 _ #[.string S3] 9) (by simp [Value.oneCell']) (by omega)
              subst e3
              have Q3 := hide hh
              have R3 := hide r3
              clear hh r3
              have Q4 := hide (Q3.out.mset (j := 1) (by simp) (.slice a3 (i + 1) c3))
              simp only [List.set_cons_succ, List.set_cons_zero] at Q4
              have hzi : (zW.set i (.string S1))[i]? = some (.string S1) := by rw [List.getElem?_set_self (by have := FB.out.2.2.2.2.2.2; omega)]
              have SX := hide (show (wd.cell? ⟨L, 1, none⟩ = some (.slice (some ⟨gW, 0, none⟩) nb cW) ∧ wd.cell? ⟨gW, i, none⟩ = some (.string S1)) ∧ (wa.cell? ⟨L, 1, none⟩ = some (.slice (some ⟨gW, 0, none⟩) nb cW) ∧ wa.cell? ⟨gW, i, none⟩ = some (.string S1)) ∧ ((wa.alloc (.cells #[.string S3] 9)).cell? ⟨L, 1, none⟩ = some (.slice (some ⟨gW, 0, none⟩) nb cW) ∧ (wa.alloc (.cells #[.string S3] 9)).cell? ⟨gW, i, none⟩ = some (.string S1)) ∧ (x3.cell? ⟨L, 1, none⟩ = some (.slice (some ⟨gW, 0, none⟩) nb cW) ∧ x3.cell? ⟨gW, i, none⟩ = some (.string S1)) ∧ ((x3.setCell ⟨M, 1, none⟩ (.slice a3 (i + 1) c3)).cell? ⟨L, 1, none⟩ = some (.slice (some ⟨gW, 0, none⟩) nb cW) ∧ (x3.setCell ⟨M, 1, none⟩ (.slice a3 (i + 1) c3)).cell? ⟨gW, i, none⟩ = some (.string S1)) from ⟨⟨Q0.out.l (j := 1) rfl, (Q0.out.row (k := 2) (by skip; exact KK.out.2.2.2.1) hzi).1⟩, ⟨Q1.out.l (j := 1) rfl, (Q1.out.row (k := 2) (by skip; exact KK.out.2.2.2.1) hzi).1⟩, ⟨Q2.out.l (j := 1) rfl, (Q2.out.row (k := 2) (by skip; exact KK.out.2.2.2.1) hzi).1⟩, ⟨Q3.out.l (j := 1) rfl, (Q3.out.row (k := 2) (by rw [put_other _ _ (by omega)]; exact KK.out.2.2.2.1) hzi).1⟩, ⟨Q4.out.l (j := 1) rfl, (Q4.out.row (k := 2) (by rw [put_other _ _ (by omega)]; exact KK.out.2.2.2.1) hzi).1⟩⟩)
              have KX := hide (And.intro (Q0.out.m (j := 1) rfl).1 (And.intro (Q1.out.m (j := 1) rfl).1 (And.intro (Q2.out.m (j := 1) rfl).1 (Q3.out.m (j := 1) rfl))))
              clear Q0 Q1 Q2 Q3 hzi
              have SAN := hide (SAH.out.step hib EG.out zW (by have := HNB.out; rw [← this]; exact I2.out) FB.out.2.2.2.1 (by have := FB.out.2.2.2.2.2.2; have := HNB.out; omega) zB zM I21.out FB.out.2.1 FB.out.2.2.2.2.1 I22.out FB.out.2.2.1 FB.out.2.2.2.2.2.1 (J := put K1 22 ⟨9, 1, .slice a3 (i + 1) c3, i + 1, zM ++ [.string S3]⟩) (v := .slice a1 1026 c1) (mB' := .slice a2 (i + 1) c2) (mW' := .slice a3 (i + 1) c3) (fun k h1 h2 h3 h4 => by rw [put_other _ _ h4]; exact KK.out.2.2.2.2 k h1 h2 h3) (by rw [put_other _ _ (by omega)]; exact KK.out.1) (by rw [put_other _ _ (by omega), ← HS1.out]; have := HNB.out; rw [← this]; exact KK.out.2.2.2.1) (by rw [put_other _ _ (by omega)]; exact KK.out.2.1) (by rw [put_same, HS3.out]))
              have SPN := hide (SPH.out.same (J := put K1 22 ⟨9, 1, .slice a3 (i + 1) c3, i + 1, zM ++ [.string S3]⟩) (U := T1) (fun k hk => by rw [put_other _ _ (by omega)]; exact KK.out.2.2.2.2 k (by omega) (by omega) (by omega)) (fun k hk => by rw [HT1.out, tput_other _ _ (by omega)]))
              rw [← HT1.out] at SAN
              clear KK HIT HTN RB RBI LX FB I21 I22 I2 CVA EG HX SAH SPH HP hT21 hT22 hT1n
              refine wp_region_held_drew (S := fun wq : World => wq.cell? ⟨L, 1, none⟩ = some (.slice (some ⟨gW, 0, none⟩) nb cW) ∧ wq.cell? ⟨gW, i, none⟩ = some (.string S1)) (by kernel_rfl) (by rw [← HWD.out]; exact SX.out.1) (fun hS => ?_)
              rw [← HWD.out] at hS ⊢
              clear HWD
              have e8 := u8w i (by omega)
              refine take_at 0 (some 79) (v := ?_) rfl rfl (by kernel_rfl) (by kernel_rfl) (by kernel_rfl) (fun _ _ _ h => h) ⟨by rfl, ?_⟩ hS ?_
              rotate_left
              · intro wq hSw; go_simp; try rfl
              simp only [Act.put, List.setIfInBounds_toArray, List.set_cons_zero, List.set_cons_succ]
              refine take_at 2 (some 81) (v := ?_) rfl rfl (by kernel_rfl) (by kernel_rfl) (by kernel_rfl) (fun _ _ _ h => h) ⟨by rfl, ?_⟩ hS ?_
              rotate_left
              · intro wq hSw; go_simp; try rfl
              simp only [Act.put, List.setIfInBounds_toArray, List.set_cons_zero, List.set_cons_succ]
              refine take_at 3 (some 82) (v := ?_) rfl rfl (by kernel_rfl) (by kernel_rfl) (by kernel_rfl) (fun _ _ _ h => h) ⟨by rfl, ?_⟩ hS ?_
              rotate_left
              · intro wq hSw; go_simp; try rfl
              simp only [Act.put, List.setIfInBounds_toArray, List.set_cons_zero, List.set_cons_succ]
              refine take_at 4 (some 83) (v := ?_) rfl rfl (by kernel_rfl) (by kernel_rfl) (by kernel_rfl) (fun _ _ _ h => h) ⟨by rfl, ?_⟩ hS ?_
              rotate_left
              · intro wq hSw; go_simp; try rfl
              simp only [Act.put, List.setIfInBounds_toArray, List.set_cons_zero, List.set_cons_succ]
              refine take_at 5 (some 84) (v := ?_) rfl rfl (by kernel_rfl) (by kernel_rfl) (by kernel_rfl) (fun _ _ _ h => h) ⟨by rfl, ?_⟩ hS ?_
              rotate_left
              · intro wq hSw; obtain ⟨q0, q1⟩ := hSw; go_simp; try rfl
              simp only [Act.put, List.setIfInBounds_toArray, List.set_cons_zero, List.set_cons_succ]
              refine take_at 6 (some 85) (v := ?_) rfl rfl (by kernel_rfl) (by kernel_rfl) (by kernel_rfl) (fun _ _ _ h => h) ⟨by rfl, ?_⟩ hS ?_
              rotate_left
              · intro wq hSw; go_simp; try rfl
              simp only [Act.put, List.setIfInBounds_toArray, List.set_cons_zero, List.set_cons_succ]
              refine take_at 7 (some 86) (v := ?_) rfl rfl (by kernel_rfl) (by kernel_rfl) (by kernel_rfl) (fun _ _ _ h => h) ⟨by rfl, ?_⟩ hS ?_
              rotate_left
              · intro wq hSw; go_simp; try rfl
              simp only [Act.put, List.setIfInBounds_toArray, List.set_cons_zero, List.set_cons_succ]
              refine take_at 8 (some 87) (v := ?_) rfl rfl (by kernel_rfl) (by kernel_rfl) (by kernel_rfl) (fun _ _ _ h => h) ⟨by rfl, ?_⟩ hS ?_
              rotate_left
              · intro wq hSw; obtain ⟨q0, q1⟩ := hSw; go_simp; try rfl
              simp only [Act.put, List.setIfInBounds_toArray, List.set_cons_zero, List.set_cons_succ]
              refine take_at 9 (some 88) (v := ?_) rfl rfl (by kernel_rfl) (by kernel_rfl) (by kernel_rfl) (fun _ _ _ h => h) ⟨by rfl, ?_⟩ hS ?_
              rotate_left
              · intro wq hSw; go_simp; try rfl
              simp only [Act.put, List.setIfInBounds_toArray, List.set_cons_zero, List.set_cons_succ]
              refine take_at 10 (some 89) (v := ?_) rfl rfl (by kernel_rfl) (by kernel_rfl) (by kernel_rfl) (fun _ _ _ h => h) ⟨by rfl, ?_⟩ hS ?_
              rotate_left
              · intro wq hSw; go_simp; try rfl
              simp only [Act.put, List.setIfInBounds_toArray, List.set_cons_zero, List.set_cons_succ]
              refine take_at 11 (some 90) (v := ?_) rfl rfl (by kernel_rfl) (by kernel_rfl) (by kernel_rfl) (fun _ _ _ h => h) ⟨by rfl, ?_⟩ hS ?_
              rotate_left
              · intro wq hSw; go_simp; try rfl
              simp only [Act.put, List.setIfInBounds_toArray, List.set_cons_zero, List.set_cons_succ]
              refine take_at 12 (some 91) (v := ?_) rfl rfl (by kernel_rfl) (by kernel_rfl) (by kernel_rfl) (fun _ _ _ h => h) ⟨by rfl, ?_⟩ hS ?_
              rotate_left
              · intro wq hSw; go_simp; try rfl
              simp only [Act.put, List.setIfInBounds_toArray, List.set_cons_zero, List.set_cons_succ]
              refine wpAnyH_ready (rs := [1, 13]) (by kernel_rfl) (by simp) ?_
              refine AllReadyH.cons rfl (fun K hK => ?_) (AllReadyH.cons rfl (fun K hK => ?_) AllReadyH.nil)
              · have cl := KX.out.1
                go_simp
                go_wp2_with fail
                refine hK.out _ _ SX.out.1 (fun hS => ?_)
                clear hK K
                (try simp only [Act.put, List.setIfInBounds_toArray, List.set_cons_zero, List.set_cons_succ])
                clear cl
                refine wpAnyH_ready (rs := [13]) (by kernel_rfl) (by simp) ?_
                refine AllReadyH.cons rfl (fun K hK => ?_) AllReadyH.nil
                go_simp
                (try go_wp2_with fail)
                rw [← HWA.out]
                refine hK.out _ _ SX.out.2.1 (fun hS => ?_)
                clear hK K
                (try simp only [Act.put, List.setIfInBounds_toArray, List.set_cons_zero, List.set_cons_succ])
                refine wpAnyH_ready (rs := [14]) (by kernel_rfl) (by simp) ?_
                refine AllReadyH.cons rfl (fun K hK => ?_) AllReadyH.nil
                have cv := CVL.out
                go_simp
                go_wp2_with fail
                refine hK.out _ _ SX.out.2.1 (fun hS => ?_)
                clear hK K
                (try simp only [Act.put, List.setIfInBounds_toArray, List.set_cons_zero, List.set_cons_succ])
                clear cv
                refine take_at 15 (some 94) (v := ?_) rfl rfl (by kernel_rfl) (by kernel_rfl) (by kernel_rfl) (fun _ _ _ h => h) ⟨by rfl, ?_⟩ hS ?_
                rotate_left
                · intro wq hSw; have es := ES3.out.symm; have e10 := SZ12.out; go_simp; try rfl
                simp only [Act.put, List.setIfInBounds_toArray, List.set_cons_zero, List.set_cons_succ]
                refine wpAnyH_ready (rs := [16]) (by kernel_rfl) (by simp) ?_
                refine AllReadyH.cons rfl (fun K hK => ?_) AllReadyH.nil
                go_simp
                (try go_wp2_with fail)
                refine hK.out _ _ SX.out.2.2.1 (fun hS => ?_)
                clear hK K
                (try simp only [Act.put, List.setIfInBounds_toArray, List.set_cons_zero, List.set_cons_succ])
                refine wpAnyH_ready (rs := [17]) (by kernel_rfl) (by simp) ?_
                refine AllReadyH.cons rfl (fun K hK => ?_) AllReadyH.nil
                refine wp_run 96 (.tmp 80) (.tmp 95) rfl rfl rfl rfl rfl R3.out ?_
                refine hK.out _ _ SX.out.2.2.2.1 (fun hS => ?_)
                clear hK K
                (try simp only [Act.put, List.setIfInBounds_toArray, List.set_cons_zero, List.set_cons_succ])
                refine take_at 18 (some 97) (v := ?_) rfl rfl (by kernel_rfl) (by kernel_rfl) (by kernel_rfl) (fun _ _ _ h => h) ⟨by rfl, ?_⟩ hS ?_
                rotate_left
                · intro wq hSw; go_simp; try rfl
                simp only [Act.put, List.setIfInBounds_toArray, List.set_cons_zero, List.set_cons_succ]
                refine wpAnyH_ready (rs := [19]) (by kernel_rfl) (by simp) ?_
                refine AllReadyH.cons rfl (fun K hK => ?_) AllReadyH.nil
                have k2 := KX.out.2.2.2.1
                have k3 := KX.out.2.2.2.2
                go_simp
                go_wp2_with fail
                refine hK.out _ _ SX.out.2.2.2.2 (fun hS => ?_)
                clear hK K
                (try simp only [Act.put, List.setIfInBounds_toArray, List.set_cons_zero, List.set_cons_succ])
                refine wpAnyH_done (by kernel_rfl) ?_ _
                go_wp2_with fail
                go_roundw
                case rel => exact ⟨i + 1, _, _, T1, .slice a2 (i + 1) c2, .slice a3 (i + 1) c3, by go_num, by omega, Q4.out, SAN.out, SPN.out⟩
                case measure => simp [intOf]; omega
              · go_simp
                (try go_wp2_with fail)
                rw [← HWA.out]
                refine hK.out _ _ SX.out.2.1 (fun hS => ?_)
                clear hK K
                (try simp only [Act.put, List.setIfInBounds_toArray, List.set_cons_zero, List.set_cons_succ])
                refine wpAnyH_ready (rs := [1, 14]) (by kernel_rfl) (by simp) ?_
                refine AllReadyH.cons rfl (fun K hK => ?_) (AllReadyH.cons rfl (fun K hK => ?_) AllReadyH.nil)
                · have cl := KX.out.2.1
                  go_simp
                  go_wp2_with fail
                  refine hK.out _ _ SX.out.2.1 (fun hS => ?_)
                  clear hK K
                  (try simp only [Act.put, List.setIfInBounds_toArray, List.set_cons_zero, List.set_cons_succ])
                  clear cl
                  refine wpAnyH_ready (rs := [14]) (by kernel_rfl) (by simp) ?_
                  refine AllReadyH.cons rfl (fun K hK => ?_) AllReadyH.nil
                  have cv := CVL.out
                  go_simp
                  go_wp2_with fail
                  refine hK.out _ _ SX.out.2.1 (fun hS => ?_)
                  clear hK K
                  (try simp only [Act.put, List.setIfInBounds_toArray, List.set_cons_zero, List.set_cons_succ])
                  clear cv
                  refine take_at 15 (some 94) (v := ?_) rfl rfl (by kernel_rfl) (by kernel_rfl) (by kernel_rfl) (fun _ _ _ h => h) ⟨by rfl, ?_⟩ hS ?_
                  rotate_left
                  · intro wq hSw; have es := ES3.out.symm; have e10 := SZ12.out; go_simp; try rfl
                  simp only [Act.put, List.setIfInBounds_toArray, List.set_cons_zero, List.set_cons_succ]
                  refine wpAnyH_ready (rs := [16]) (by kernel_rfl) (by simp) ?_
                  refine AllReadyH.cons rfl (fun K hK => ?_) AllReadyH.nil
                  go_simp
                  (try go_wp2_with fail)
                  refine hK.out _ _ SX.out.2.2.1 (fun hS => ?_)
                  clear hK K
                  (try simp only [Act.put, List.setIfInBounds_toArray, List.set_cons_zero, List.set_cons_succ])
                  refine wpAnyH_ready (rs := [17]) (by kernel_rfl) (by simp) ?_
                  refine AllReadyH.cons rfl (fun K hK => ?_) AllReadyH.nil
                  refine wp_run 96 (.tmp 80) (.tmp 95) rfl rfl rfl rfl rfl R3.out ?_
                  refine hK.out _ _ SX.out.2.2.2.1 (fun hS => ?_)
                  clear hK K
                  (try simp only [Act.put, List.setIfInBounds_toArray, List.set_cons_zero, List.set_cons_succ])
                  refine take_at 18 (some 97) (v := ?_) rfl rfl (by kernel_rfl) (by kernel_rfl) (by kernel_rfl) (fun _ _ _ h => h) ⟨by rfl, ?_⟩ hS ?_
                  rotate_left
                  · intro wq hSw; go_simp; try rfl
                  simp only [Act.put, List.setIfInBounds_toArray, List.set_cons_zero, List.set_cons_succ]
                  refine wpAnyH_ready (rs := [19]) (by kernel_rfl) (by simp) ?_
                  refine AllReadyH.cons rfl (fun K hK => ?_) AllReadyH.nil
                  have k2 := KX.out.2.2.2.1
                  have k3 := KX.out.2.2.2.2
                  go_simp
                  go_wp2_with fail
                  refine hK.out _ _ SX.out.2.2.2.2 (fun hS => ?_)
                  clear hK K
                  (try simp only [Act.put, List.setIfInBounds_toArray, List.set_cons_zero, List.set_cons_succ])
                  refine wpAnyH_done (by kernel_rfl) ?_ _
                  go_wp2_with fail
                  go_roundw
                  case rel => exact ⟨i + 1, _, _, T1, .slice a2 (i + 1) c2, .slice a3 (i + 1) c3, by go_num, by omega, Q4.out, SAN.out, SPN.out⟩
                  case measure => simp [intOf]; omega
                · have cv := CVL.out
                  go_simp
                  go_wp2_with fail
                  refine hK.out _ _ SX.out.2.1 (fun hS => ?_)
                  clear hK K
                  (try simp only [Act.put, List.setIfInBounds_toArray, List.set_cons_zero, List.set_cons_succ])
                  clear cv
                  refine take_at 15 (some 94) (v := ?_) rfl rfl (by kernel_rfl) (by kernel_rfl) (by kernel_rfl) (fun _ _ _ h => h) ⟨by rfl, ?_⟩ hS ?_
                  rotate_left
                  · intro wq hSw; have es := ES3.out.symm; have e10 := SZ12.out; go_simp; try rfl
                  simp only [Act.put, List.setIfInBounds_toArray, List.set_cons_zero, List.set_cons_succ]
                  refine wpAnyH_ready (rs := [1, 16]) (by kernel_rfl) (by simp) ?_
                  refine AllReadyH.cons rfl (fun K hK => ?_) (AllReadyH.cons rfl (fun K hK => ?_) AllReadyH.nil)
                  · have cl := KX.out.2.1
                    go_simp
                    go_wp2_with fail
                    refine hK.out _ _ SX.out.2.1 (fun hS => ?_)
                    clear hK K
                    (try simp only [Act.put, List.setIfInBounds_toArray, List.set_cons_zero, List.set_cons_succ])
                    clear cl
                    refine wpAnyH_ready (rs := [16]) (by kernel_rfl) (by simp) ?_
                    refine AllReadyH.cons rfl (fun K hK => ?_) AllReadyH.nil
                    go_simp
                    (try go_wp2_with fail)
                    refine hK.out _ _ SX.out.2.2.1 (fun hS => ?_)
                    clear hK K
                    (try simp only [Act.put, List.setIfInBounds_toArray, List.set_cons_zero, List.set_cons_succ])
                    refine wpAnyH_ready (rs := [17]) (by kernel_rfl) (by simp) ?_
                    refine AllReadyH.cons rfl (fun K hK => ?_) AllReadyH.nil
                    refine wp_run 96 (.tmp 80) (.tmp 95) rfl rfl rfl rfl rfl R3.out ?_
                    refine hK.out _ _ SX.out.2.2.2.1 (fun hS => ?_)
                    clear hK K
                    (try simp only [Act.put, List.setIfInBounds_toArray, List.set_cons_zero, List.set_cons_succ])
                    refine take_at 18 (some 97) (v := ?_) rfl rfl (by kernel_rfl) (by kernel_rfl) (by kernel_rfl) (fun _ _ _ h => h) ⟨by rfl, ?_⟩ hS ?_
                    rotate_left
                    · intro wq hSw; go_simp; try rfl
                    simp only [Act.put, List.setIfInBounds_toArray, List.set_cons_zero, List.set_cons_succ]
                    refine wpAnyH_ready (rs := [19]) (by kernel_rfl) (by simp) ?_
                    refine AllReadyH.cons rfl (fun K hK => ?_) AllReadyH.nil
                    have k2 := KX.out.2.2.2.1
                    have k3 := KX.out.2.2.2.2
                    go_simp
                    go_wp2_with fail
                    refine hK.out _ _ SX.out.2.2.2.2 (fun hS => ?_)
                    clear hK K
                    (try simp only [Act.put, List.setIfInBounds_toArray, List.set_cons_zero, List.set_cons_succ])
                    refine wpAnyH_done (by kernel_rfl) ?_ _
                    go_wp2_with fail
                    go_roundw
                    case rel => exact ⟨i + 1, _, _, T1, .slice a2 (i + 1) c2, .slice a3 (i + 1) c3, by go_num, by omega, Q4.out, SAN.out, SPN.out⟩
                    case measure => simp [intOf]; omega
                  · go_simp
                    (try go_wp2_with fail)
                    refine hK.out _ _ SX.out.2.2.1 (fun hS => ?_)
                    clear hK K
                    (try simp only [Act.put, List.setIfInBounds_toArray, List.set_cons_zero, List.set_cons_succ])
                    refine wpAnyH_ready (rs := [1]) (by kernel_rfl) (by simp) ?_
                    refine AllReadyH.cons rfl (fun K hK => ?_) AllReadyH.nil
                    have cl := KX.out.2.2.1
                    go_simp
                    go_wp2_with fail
                    refine hK.out _ _ SX.out.2.2.1 (fun hS => ?_)
                    clear hK K
                    (try simp only [Act.put, List.setIfInBounds_toArray, List.set_cons_zero, List.set_cons_succ])
                    clear cl
                    refine wpAnyH_ready (rs := [17]) (by kernel_rfl) (by simp) ?_
                    refine AllReadyH.cons rfl (fun K hK => ?_) AllReadyH.nil
                    refine wp_run 96 (.tmp 80) (.tmp 95) rfl rfl rfl rfl rfl R3.out ?_
                    refine hK.out _ _ SX.out.2.2.2.1 (fun hS => ?_)
                    clear hK K
                    (try simp only [Act.put, List.setIfInBounds_toArray, List.set_cons_zero, List.set_cons_succ])
                    refine take_at 18 (some 97) (v := ?_) rfl rfl (by kernel_rfl) (by kernel_rfl) (by kernel_rfl) (fun _ _ _ h => h) ⟨by rfl, ?_⟩ hS ?_
                    rotate_left
                    · intro wq hSw; go_simp; try rfl
                    simp only [Act.put, List.setIfInBounds_toArray, List.set_cons_zero, List.set_cons_succ]
                    refine wpAnyH_ready (rs := [19]) (by kernel_rfl) (by simp) ?_
                    refine AllReadyH.cons rfl (fun K hK => ?_) AllReadyH.nil
                    have k2 := KX.out.2.2.2.1
                    have k3 := KX.out.2.2.2.2
                    go_simp
                    go_wp2_with fail
                    refine hK.out _ _ SX.out.2.2.2.2 (fun hS => ?_)
                    clear hK K
                    (try simp only [Act.put, List.setIfInBounds_toArray, List.set_cons_zero, List.set_cons_succ])
                    refine wpAnyH_done (by kernel_rfl) ?_ _
                    go_wp2_with fail
                    go_roundw
                    case rel => exact ⟨i + 1, _, _, T1, .slice a2 (i + 1) c2, .slice a3 (i + 1) c3, by go_num, by omega, Q4.out, SAN.out, SPN.out⟩
                    case measure => simp [intOf]; omega
      · obtain rfl : nb = i := by omega
        have d1 : decide ((nb : Int) < (nb : Int)) = false := decide_eq_false (by omega)
        clear hzB1 hzB2 hzM1 hzM2 hzW1 hzW2 sa sp hp
        go_wp2_with fail
        clear y0 d1
        go_loopw [6] (fun v wz => ∃ (i : Nat) (lab : Nat → Nat) (I : Nat → Option It), v = .int .i64 (i : Int) ∧ i ≤ np ∧ Hp w0 B L M wz lab I T [.slice (some ⟨gB, 0, none⟩) nb cB, .slice (some ⟨gW, 0, none⟩) nb cW, .slice (some ⟨gP, 0, none⟩) np cP, .slice aR nr cR] [.slice aM nb cM, .slice aV nb cV, nilS, nilS] [] ∧ SA I T (.slice (some ⟨gB, 0, none⟩) nb cB) (.slice (some ⟨gW, 0, none⟩) nb cW) (.slice aM nb cM) (.slice aV nb cV) bs nb ∧ SP I T (.slice (some ⟨gP, 0, none⟩) np cP) nilS ps i 0) (fun v _ => np + 1 - (intOf v).toNat)
        case atStart => exact ⟨0, lab, I, rfl, Nat.zero_le _, HP.out, SAH.out, SPH.out⟩
        case round =>
          clear HP SAH SPH lab I
          obtain ⟨i, lab, I, rfl, hi, hp, sa, sp⟩ := hrel
          have HP := hide hp
          have SAH := hide sa
          have SPH := hide sp
          have y2 := hp.l (j := 2) rfl
          clear hp sa sp
          by_cases hlt : i < np
          · have d1 : decide ((i : Int) < (np : Int)) = true := decide_eq_true (by omega)
            have d2 : (i : Int) < (np : Int) := by omega
            have hip : i < ps.length := by have := HNP.out; omega
            obtain ⟨pn, pl, pc, pg, ta, tc, tb, td, hps⟩ : ∃ pn pl pc pg ta tc tb td, ps[i] = ((⟨pn, pl, pc, pg⟩ : PageM), (⟨ta, tc, tb, td⟩ : At)) := ⟨_, _, _, _, _, _, _, _, rfl⟩
            have RP := hide (show I 3 = some ⟨27, 4, .slice (some ⟨gP, 0, none⟩) np cP, np, rowsC pgC ps⟩ by have := HNP.out; rw [SPH.out.rP, ← this])
            have hl := HL2.out ps[i] (List.getElem_mem hip)
            obtain ⟨n, hn⟩ : ∃ n, n = pc.length := ⟨_, rfl⟩
            obtain ⟨m, hm⟩ : ∃ n, n = pg.length := ⟨_, rfl⟩
            obtain ⟨z0, z1, z2, z3⟩ := HP.out.pg RP.out hip
            rw [hps] at hl
            simp only [vC, vG, hps, ← hn, ← hm] at z0 z1 z2 z3 hl
            obtain ⟨w1, w2⟩ := SPH.out.todo i hip (Nat.le_refl _)
            have CI := hide (show I (200 + 2 * i) = some ⟨57, 5, .slice ta n tc, n, ctrsC pc⟩ by rw [w1, hps, hn])
            have GI := hide (show I (201 + 2 * i) = some ⟨59, 2, .slice tb m td, m, grpsC pg⟩ by rw [w2, hps, hm])
            have HPS := hide hps
            have HN := hide hn
            have HM := hide hm
            obtain ⟨hn3, hm3⟩ := hl
            clear w1 w2 hps hn hm
            go_upto_region 16 with fail
            clear z0 z1 z2 z3 y2
            refine named (P := Code.wp _ _ _ _) ?_
            intro w3 hw3
            obtain ⟨P, hP⟩ : ∃ z, z = wr.heap.size := ⟨_, rfl⟩
            rw [← hP]
            have H1 := hide (HP.out.box (w' := w3) [.int .i64 pn, .int .i64 pl, .slice ta n tc, .slice tb m td] P (by rw [hw3]; exact alloc_below _ _) (by omega) (by rw [hw3, hP]; exact Cells.new wr #[.int .i64 pn, .int .i64 pl, .slice ta n tc, .slice tb m td] 27))
            clear hw3 hP
            obtain ⟨lab1, hlab1⟩ : ∃ z, z = relab lab wr.heap.size 9 := ⟨_, rfl⟩
            rw [← hlab1] at H1
            clear hlab1
            have HTC := hide (SPH.out.tn (200 + 2 * i) (by omega))
            have HTG := hide (SPH.out.tn (201 + 2 * i) (by omega))
            go_wp2_with fail
            go_loopw [8] (fun v wz => ∃ (k : Nat) (Y : List CtrM), v = .int .i64 (k : Int) ∧ k ≤ n ∧ Y.length = n ∧ (∀ j, j < k → Y[j]? = some ⟨-(i : Int), 0, 0, 0, (j : Int)⟩) ∧ Hp w0 B L M wz lab1 (put I (200 + 2 * i) ⟨57, 5, .slice ta n tc, n, ctrsC Y⟩) T [.slice (some ⟨gB, 0, none⟩) nb cB, .slice (some ⟨gW, 0, none⟩) nb cW, .slice (some ⟨gP, 0, none⟩) np cP, .slice aR nr cR] [.slice aM nb cM, .slice aV nb cV, nilS, nilS] [(P, [.int .i64 pn, .int .i64 pl, .slice ta n tc, .slice tb m td])]) (fun v _ => n + 1 - (intOf v).toNat)
            case atStart => exact ⟨0, pc, rfl, Nat.zero_le _, HN.out.symm, (fun j hj => by omega), by rw [put_self CI.out]; exact H1.out⟩
            case round =>
              obtain ⟨k, Y, rfl, hk, hY1, hY2, hp⟩ := hrel
              have hpc := (hp.xs (P, [.int .i64 pn, .int .i64 pl, .slice ta n tc, .slice tb m td]) (by simp)).cells
              have y2 := (hpc.get 2 _ rfl).1
              clear hpc
              by_cases hlt2 : k < n
              · have d3 : decide ((k : Int) < (n : Int)) = true := decide_eq_true (by omega)
                have d4 : (k : Int) < (n : Int) := by omega
                have e7 := negw i (by omega)
                have e8 := negw2 i (by omega)
                obtain ⟨g, c, eg⟩ := hp.opn (put_same _ _ _) (by omega)
                cases eg
                obtain ⟨vz0, zc0, zf0⟩ := hp.any_ (k := (200 + 2 * i)) (put_same _ _ _) (j := k * 5 + 0) (by have := Nat.mul_le_mul (show k + 1 ≤ n by omega) (Nat.le_refl 5); omega)
                obtain ⟨vz1, zc1, zf1⟩ := hp.any_ (k := (200 + 2 * i)) (put_same _ _ _) (j := k * 5 + 1) (by have := Nat.mul_le_mul (show k + 1 ≤ n by omega) (Nat.le_refl 5); omega)
                obtain ⟨vz2, zc2, zf2⟩ := hp.any_ (k := (200 + 2 * i)) (put_same _ _ _) (j := k * 5 + 2) (by have := Nat.mul_le_mul (show k + 1 ≤ n by omega) (Nat.le_refl 5); omega)
                obtain ⟨vz3, zc3, zf3⟩ := hp.any_ (k := (200 + 2 * i)) (put_same _ _ _) (j := k * 5 + 3) (by have := Nat.mul_le_mul (show k + 1 ≤ n by omega) (Nat.le_refl 5); omega)
                obtain ⟨vz4, zc4, zf4⟩ := hp.any_ (k := (200 + 2 * i)) (put_same _ _ _) (j := k * 5 + 4) (by have := Nat.mul_le_mul (show k + 1 ≤ n by omega) (Nat.le_refl 5); omega)
                simp only [Nat.add_zero] at zc0 zf0
                have hq0 := hp.set (key := (200 + 2 * i)) (put_same _ _ _) HTC.out (by omega) (k * 5 + 0) (.int .i64 (-(i : Int)))
                rw [put_put] at hq0
                have hq1 := hq0.set (key := (200 + 2 * i)) (put_same _ _ _) HTC.out (by omega) (k * 5 + 1) (.int .i64 0)
                rw [put_put] at hq1
                have hq2 := hq1.set (key := (200 + 2 * i)) (put_same _ _ _) HTC.out (by omega) (k * 5 + 2) (.int .i64 0)
                rw [put_put] at hq2
                have hq3 := hq2.set (key := (200 + 2 * i)) (put_same _ _ _) HTC.out (by omega) (k * 5 + 3) (.int .i64 0)
                rw [put_put] at hq3
                have hq4 := hq3.set (key := (200 + 2 * i)) (put_same _ _ _) HTC.out (by omega) (k * 5 + 4) (.int .i64 (k : Int))
                rw [put_put] at hq4
                simp only [Nat.add_zero] at hq4
                have es := ctrs_set Y k ⟨-(i : Int), 0, 0, 0, (k : Int)⟩ (by omega)
                simp only [Nat.add_zero] at es
                rw [es] at hq4
                clear es
                have HQ := hide hq4
                have Y3 := hide (get_set (y := ⟨-(i : Int), 0, 0, 0, (k : Int)⟩) hY1 hlt2 (f := fun j => (⟨-(i : Int), 0, 0, 0, (j : Int)⟩ : CtrM)) rfl hY2)
                have Y4 := hide (show (Y.set k ⟨-(i : Int), 0, 0, 0, (k : Int)⟩).length = n by simpa using hY1)
                clear hp hY1 hY2 hq0 hq1 hq2 hq3 hq4
                go_wp2_with fail
                go_roundw
                case rel => exact ⟨k + 1, _, by go_num, by omega, Y4.out, Y3.out, HQ.out⟩
                case measure => simp [intOf]; omega
              · obtain rfl : n = k := by omega
                have d3 : decide ((n : Int) < (n : Int)) = false := decide_eq_false (by omega)
                have eY := mkC_of hY1 hY2
                subst eY
                have H2 := hide hp
                clear hp hY1 hY2
                obtain ⟨wx, hwx⟩ : ∃ x, x = wr := ⟨_, rfl⟩
                subst hwx
                clear H1
                go_wp2_with fail
                clear y2 d3
                go_loopw [9] (fun v wz => ∃ (k : Nat) (Y : List GrpM), v = .int .i64 (k : Int) ∧ k ≤ m ∧ Y.length = m ∧ (∀ j, j < k → Y[j]? = some ⟨-(i : Int), (j : Int)⟩) ∧ Hp w0 B L M wz lab1 (put (put I (200 + 2 * i) ⟨57, 5, .slice ta n tc, n, ctrsC (mkC i n 0)⟩) (201 + 2 * i) ⟨59, 2, .slice tb m td, m, grpsC Y⟩) T [.slice (some ⟨gB, 0, none⟩) nb cB, .slice (some ⟨gW, 0, none⟩) nb cW, .slice (some ⟨gP, 0, none⟩) np cP, .slice aR nr cR] [.slice aM nb cM, .slice aV nb cV, nilS, nilS] [(P, [.int .i64 pn, .int .i64 pl, .slice ta n tc, .slice tb m td])]) (fun v _ => m + 1 - (intOf v).toNat)
                case atStart => exact ⟨0, pg, rfl, Nat.zero_le _, HM.out.symm, (fun j hj => by omega), by rw [put_self (by rw [put_other _ _ (by omega)]; exact GI.out)]; exact H2.out⟩
                case round =>
                  obtain ⟨k, Y, rfl, hk, hY1, hY2, hp⟩ := hrel
                  have hpc := (hp.xs (P, [.int .i64 pn, .int .i64 pl, .slice ta n tc, .slice tb m td]) (by simp)).cells
                  have y3 := (hpc.get 3 _ rfl).1
                  clear hpc
                  by_cases hlt2 : k < m
                  · have d3 : decide ((k : Int) < (m : Int)) = true := decide_eq_true (by omega)
                    have d4 : (k : Int) < (m : Int) := by omega
                    have e7 := negw i (by omega)
                    have e8 := negw2 i (by omega)
                    obtain ⟨g, c, eg⟩ := hp.opn (put_same _ _ _) (by omega)
                    cases eg
                    obtain ⟨vz0, zc0, zf0⟩ := hp.any_ (k := (201 + 2 * i)) (put_same _ _ _) (j := k * 2 + 0) (by have := Nat.mul_le_mul (show k + 1 ≤ m by omega) (Nat.le_refl 2); omega)
                    obtain ⟨vz1, zc1, zf1⟩ := hp.any_ (k := (201 + 2 * i)) (put_same _ _ _) (j := k * 2 + 1) (by have := Nat.mul_le_mul (show k + 1 ≤ m by omega) (Nat.le_refl 2); omega)
                    simp only [Nat.add_zero] at zc0 zf0
                    have hq0 := hp.set (key := (201 + 2 * i)) (put_same _ _ _) HTG.out (by omega) (k * 2 + 0) (.int .i64 (-(i : Int)))
                    rw [put_put] at hq0
                    have hq1 := hq0.set (key := (201 + 2 * i)) (put_same _ _ _) HTG.out (by omega) (k * 2 + 1) (.int .i64 (k : Int))
                    rw [put_put] at hq1
                    simp only [Nat.add_zero] at hq1
                    have es := grps_set Y k ⟨-(i : Int), (k : Int)⟩ (by omega)
                    simp only [Nat.add_zero] at es
                    rw [es] at hq1
                    clear es
                    have HQ := hide hq1
                    have Y3 := hide (get_set (y := ⟨-(i : Int), (k : Int)⟩) hY1 hlt2 (f := fun j => (⟨-(i : Int), (j : Int)⟩ : GrpM)) rfl hY2)
                    have Y4 := hide (show (Y.set k ⟨-(i : Int), (k : Int)⟩).length = m by simpa using hY1)
                    clear hp hY1 hY2 hq0 hq1
                    go_wp2_with fail
                    go_roundw
                    case rel => exact ⟨k + 1, _, by go_num, by omega, Y4.out, Y3.out, HQ.out⟩
                    case measure => simp [intOf]; omega
                  · obtain rfl : m = k := by omega
                    have d3 : decide ((m : Int) < (m : Int)) = false := decide_eq_false (by omega)
                    have eY := mkG_of hY1 hY2
                    subst eY
                    have H3 := hide hp
                    clear hp hY1 hY2
                    have SPN := hide (SPH.out.mark hip (J := put (put I (200 + 2 * i) ⟨57, 5, .slice ta n tc, n, ctrsC (mkC i n 0)⟩) (201 + 2 * i) ⟨59, 2, .slice tb m td, m, grpsC (mkG i m 0)⟩) (fun k h1 h2 => by rw [put_other _ _ h2, put_other _ _ h1]) (by rw [put_other _ _ (by omega), put_same, HPS.out, HN.out]) (by rw [put_same, HPS.out, HM.out]))
                    have SAN := hide ((SAH.out.put (200 + 2 * i) ⟨57, 5, .slice ta n tc, n, ctrsC (mkC i n 0)⟩ (by omega)).put (201 + 2 * i) ⟨59, 2, .slice tb m td, m, grpsC (mkG i m 0)⟩ (by omega))
                    have HPN := hide (H3.out.less (ys := []) (fun y hy => by cases hy))
                    go_wp2_with fail
                    go_roundw
                    case rel => first | exact ⟨i + 1, _, _, by go_num, by omega, HPN.out, SAN.out, SPN.out⟩ | ((repeat apply Exists.intro); exact ⟨⟨i + 1, _, _, by go_num, by omega, HPN.out, SAN.out, SPN.out⟩, rfl⟩)
                    case measure => simp [intOf]; omega
          · obtain rfl : np = i := by omega
            have d1 : decide ((np : Int) < (np : Int)) = false := decide_eq_false (by omega)
            obtain ⟨wx, hwx⟩ : ∃ x, x = wr := ⟨_, rfl⟩
            subst hwx
            have SPH2 := hide (show SP I T (.slice (some ⟨gP, 0, none⟩) np cP) nilS ps ps.length 0 by have := HNP.out; rw [← this]; exact SPH.out)
            clear SPH
            go_wp2_with fail
            clear y2 d1
            go_loopw [10] (fun v wz => ∃ (i : Nat) (lab : Nat → Nat) (I : Nat → Option It) (U : Tl) (mP : Value), v = .int .i64 (i : Int) ∧ i ≤ np ∧ Hp w0 B L M wz lab I U [.slice (some ⟨gB, 0, none⟩) nb cB, .slice (some ⟨gW, 0, none⟩) nb cW, .slice (some ⟨gP, 0, none⟩) np cP, .slice aR nr cR] [.slice aM nb cM, .slice aV nb cV, mP, nilS] [] ∧ SA I U (.slice (some ⟨gB, 0, none⟩) nb cB) (.slice (some ⟨gW, 0, none⟩) nb cW) (.slice aM nb cM) (.slice aV nb cV) bs nb ∧ SP I U (.slice (some ⟨gP, 0, none⟩) np cP) mP ps ps.length i) (fun v _ => np + 1 - (intOf v).toNat)
            case atStart => exact ⟨0, lab, I, T, nilS, rfl, Nat.zero_le _, HP.out, SAH.out, SPH2.out⟩
            case round =>
              clear HP SAH SPH2 lab I
              obtain ⟨i, lab, I, U, mP, rfl, hi, hp, sa, sp⟩ := hrel
              have HP := hide hp
              have SAH := hide sa
              have SPH := hide sp
              have y2 := hp.l (j := 2) rfl
              clear hp sa sp
              by_cases hlt : i < np
              · have d1 : decide ((i : Int) < (np : Int)) = true := decide_eq_true (by omega)
                have d2 : (i : Int) < (np : Int) := by omega
                have hip : i < ps.length := by have := HNP.out; omega
                obtain ⟨pn, pl, pc, pg, ta, tc, tb, td, hps⟩ : ∃ pn pl pc pg ta tc tb td, ps[i] = ((⟨pn, pl, pc, pg⟩ : PageM), (⟨ta, tc, tb, td⟩ : At)) := ⟨_, _, _, _, _, _, _, _, rfl⟩
                have RP := hide (show I 3 = some ⟨27, 4, .slice (some ⟨gP, 0, none⟩) np cP, np, rowsC pgC ps⟩ by have := HNP.out; rw [SPH.out.rP, ← this])
                have hl := HL2.out ps[i] (List.getElem_mem hip)
                obtain ⟨n, hn⟩ : ∃ n, n = pc.length := ⟨_, rfl⟩
                obtain ⟨m, hm⟩ : ∃ n, n = pg.length := ⟨_, rfl⟩
                obtain ⟨z0, z1, z2, z3⟩ := HP.out.pg RP.out hip
                rw [hps] at hl
                simp only [vC, vG, hps, ← hn, ← hm] at z0 z1 z2 z3 hl
                obtain ⟨w1, w2⟩ := SPH.out.mid i hip (Nat.le_refl _) hip
                have CI := hide (show I (200 + 2 * i) = some ⟨57, 5, .slice ta n tc, n, ctrsC (mkC i n 0)⟩ by rw [w1, hps, hn])
                have GI := hide (show I (201 + 2 * i) = some ⟨59, 2, .slice tb m td, m, grpsC (mkG i m 0)⟩ by rw [w2, hps, hm])
                have HPS := hide hps
                have HN := hide hn
                have HM := hide hm
                obtain ⟨hn3, hm3⟩ := hl
                clear w1 w2 hps hn hm
                obtain ⟨zM, hzM1, hzM2, hzM3⟩ := SPH.out.mP
                obtain ⟨aQ, cQ, eQ⟩ := HP.out.sl hzM1
                subst eQ
                have I23 := hide hzM1
                have FM := hide (And.intro hzM2 hzM3)
                clear hzM1 hzM2 hzM3
                go_upto_region 28 with fail
                clear z0 z1 z2 z3 y2
                refine named (P := Code.wp _ _ _ _) ?_
                intro w3 hw3
                obtain ⟨P, hP⟩ : ∃ z, z = wr.heap.size := ⟨_, rfl⟩
                rw [← hP]
                have H1 := hide (HP.out.box (w' := w3) [.int .i64 pn, .int .i64 pl, .slice ta n tc, .slice tb m td] P (by rw [hw3]; exact alloc_below _ _) (by omega) (by rw [hw3, hP]; exact Cells.new wr #[.int .i64 pn, .int .i64 pl, .slice ta n tc, .slice tb m td] 27))
                clear hw3 hP
                obtain ⟨lab1, hlab1⟩ : ∃ z, z = relab lab wr.heap.size 9 := ⟨_, rfl⟩
                rw [← hlab1] at H1
                clear hlab1
                have HTC := hide (SPH.out.tn (200 + 2 * i) (by omega))
                have HTG := hide (SPH.out.tn (201 + 2 * i) (by omega))
                obtain ⟨U1, hU1⟩ : ∃ z, z = tput U (200 + 2 * i) (ta, ctrsC (mkC i n 0)) := ⟨_, rfl⟩
                have HTG1 := hide (show U1 (201 + 2 * i) = none by rw [hU1, tput_other _ _ (by omega)]; exact HTG.out)
                have HU1 := hide hU1
                clear hU1
                (try simp only [Act.put])
                go_cut [12] (fun s w' => ∃ (R : Nat) (a1 : Option Addr) (c1 : Nat) (a2 : Option Addr) (c2 : Nat) (labR : Nat → Nat), s = .pointer (some ⟨R, 0, none⟩) ∧ Hp w0 B L M w' labR (put (put I (200 + 2 * i) ⟨57, 5, .slice a1 (n + 1) c1, n + 1, ctrsC (mkC i n 0) ++ [.int .i64 (-(i : Int)), .int .i64 0, .int .i64 0, .int .i64 0, .int .i64 0]⟩) (201 + 2 * i) ⟨59, 2, .slice a2 (m + 1) c2, m + 1, grpsC (mkG i m 0) ++ [.int .i64 (-(i : Int)), .int .i64 0]⟩) (tput U1 (201 + 2 * i) (tb, grpsC (mkG i m 0))) [.slice (some ⟨gB, 0, none⟩) nb cB, .slice (some ⟨gW, 0, none⟩) nb cW, .slice (some ⟨gP, 0, none⟩) np cP, .slice aR nr cR] [.slice aM nb cM, .slice aV nb cV, .slice aQ i cQ, nilS] [(R, [.int .i64 pn, .int .i64 pl, .slice a1 (n + 1) c1, .slice a2 (m + 1) c2])])
                case first =>
                  have hd0 := H1.out.below (Below.refl _ _).drew
                  refine wp_region_held_drew (S := fun wq : World => wq.cell? ⟨P, 0, none⟩ = some (.int .i64 pn) ∧ wq.cell? ⟨P, 1, none⟩ = some (.int .i64 pl) ∧ wq.cell? ⟨P, 2, none⟩ = some (.slice ta n tc) ∧ wq.cell? ⟨P, 3, none⟩ = some (.slice tb m td)) (by kernel_rfl) (show _ ∧ _ ∧ _ ∧ _ from ⟨((hd0.xs (P, [.int .i64 pn, .int .i64 pl, .slice ta n tc, .slice tb m td]) (by simp)).cells.get 0 _ rfl).1, ((hd0.xs (P, [.int .i64 pn, .int .i64 pl, .slice ta n tc, .slice tb m td]) (by simp)).cells.get 1 _ rfl).1, ((hd0.xs (P, [.int .i64 pn, .int .i64 pl, .slice ta n tc, .slice tb m td]) (by simp)).cells.get 2 _ rfl).1, ((hd0.xs (P, [.int .i64 pn, .int .i64 pl, .slice ta n tc, .slice tb m td]) (by simp)).cells.get 3 _ rfl).1⟩) (fun hS => ?_)
                  generalize w3.drew = u0 at *
                  have HA0 := hide hd0
                  clear hd0
                  have e7 := negw i (by omega)
                  have e8 := negw2 i (by omega)
                  refine take_at 0 (some 160) (v := ?_) rfl rfl (by kernel_rfl) (by kernel_rfl) (by kernel_rfl) (fun _ _ _ h => h) ⟨by rfl, ?_⟩ hS ?_
                  rotate_left
                  · intro wq hSw; go_simp; try rfl
                  simp only [Act.put, List.setIfInBounds_toArray, List.set_cons_zero, List.set_cons_succ]
                  refine take_at 1 (some 161) (v := ?_) rfl rfl (by kernel_rfl) (by kernel_rfl) (by kernel_rfl) (fun _ _ _ h => h) ⟨by rfl, ?_⟩ hS ?_
                  rotate_left
                  · intro wq hSw; obtain ⟨q0, q1, q2, q3⟩ := hSw; go_simp; try rfl
                  simp only [Act.put, List.setIfInBounds_toArray, List.set_cons_zero, List.set_cons_succ]
                  refine take_at 2 (some 162) (v := ?_) rfl rfl (by kernel_rfl) (by kernel_rfl) (by kernel_rfl) (fun _ _ _ h => h) ⟨by rfl, ?_⟩ hS ?_
                  rotate_left
                  · intro wq hSw; go_simp; try rfl
                  simp only [Act.put, List.setIfInBounds_toArray, List.set_cons_zero, List.set_cons_succ]
                  refine take_at 3 (some 163) (v := ?_) rfl rfl (by kernel_rfl) (by kernel_rfl) (by kernel_rfl) (fun _ _ _ h => h) ⟨by rfl, ?_⟩ hS ?_
                  rotate_left
                  · intro wq hSw; obtain ⟨q0, q1, q2, q3⟩ := hSw; go_simp; try rfl
                  simp only [Act.put, List.setIfInBounds_toArray, List.set_cons_zero, List.set_cons_succ]
                  refine take_at 4 (some 164) (v := ?_) rfl rfl (by kernel_rfl) (by kernel_rfl) (by kernel_rfl) (fun _ _ _ h => h) ⟨by rfl, ?_⟩ hS ?_
                  rotate_left
                  · intro wq hSw; go_simp; try rfl
                  simp only [Act.put, List.setIfInBounds_toArray, List.set_cons_zero, List.set_cons_succ]
                  refine take_at 5 (some 165) (v := ?_) rfl rfl (by kernel_rfl) (by kernel_rfl) (by kernel_rfl) (fun _ _ _ h => h) ⟨by rfl, ?_⟩ hS ?_
                  rotate_left
                  · intro wq hSw; obtain ⟨q0, q1, q2, q3⟩ := hSw; go_simp; try rfl
                  simp only [Act.put, List.setIfInBounds_toArray, List.set_cons_zero, List.set_cons_succ]
                  refine take_at 6 (some 166) (v := ?_) rfl rfl (by kernel_rfl) (by kernel_rfl) (by kernel_rfl) (fun _ _ _ h => h) ⟨by rfl, ?_⟩ hS ?_
                  rotate_left
                  · intro wq hSw; go_simp; try rfl
                  simp only [Act.put, List.setIfInBounds_toArray, List.set_cons_zero, List.set_cons_succ]
                  refine take_at 7 (some 167) (v := ?_) rfl rfl (by kernel_rfl) (by kernel_rfl) (by kernel_rfl) (fun _ _ _ h => h) ⟨by rfl, ?_⟩ hS ?_
                  rotate_left
                  · intro wq hSw; go_simp; try rfl
                  simp only [Act.put, List.setIfInBounds_toArray, List.set_cons_zero, List.set_cons_succ]
                  refine take_at 8 (some 168) (v := ?_) rfl rfl (by kernel_rfl) (by kernel_rfl) (by kernel_rfl) (fun _ _ _ h => h) ⟨by rfl, ?_⟩ hS ?_
                  rotate_left
                  · intro wq hSw; go_simp; try rfl
                  simp only [Act.put, List.setIfInBounds_toArray, List.set_cons_zero, List.set_cons_succ]
                  refine take_at 11 (some 171) (v := ?_) rfl rfl (by kernel_rfl) (by kernel_rfl) (by kernel_rfl) (fun _ _ _ h => h) ⟨by rfl, ?_⟩ hS ?_
                  rotate_left
                  · intro wq hSw; go_simp; try rfl
                  simp only [Act.put, List.setIfInBounds_toArray, List.set_cons_zero, List.set_cons_succ]
                  refine take_at 12 (some 172) (v := ?_) rfl rfl (by kernel_rfl) (by kernel_rfl) (by kernel_rfl) (fun _ _ _ h => h) ⟨by rfl, ?_⟩ hS ?_
                  rotate_left
                  · intro wq hSw; obtain ⟨q0, q1, q2, q3⟩ := hSw; go_simp; try rfl
                  simp only [Act.put, List.setIfInBounds_toArray, List.set_cons_zero, List.set_cons_succ]
                  refine take_at 13 (some 173) (v := ?_) rfl rfl (by kernel_rfl) (by kernel_rfl) (by kernel_rfl) (fun _ _ _ h => h) ⟨by rfl, ?_⟩ hS ?_
                  rotate_left
                  · intro wq hSw; go_simp; try rfl
                  simp only [Act.put, List.setIfInBounds_toArray, List.set_cons_zero, List.set_cons_succ]
                  refine take_at 14 (some 174) (v := ?_) rfl rfl (by kernel_rfl) (by kernel_rfl) (by kernel_rfl) (fun _ _ _ h => h) ⟨by rfl, ?_⟩ hS ?_
                  rotate_left
                  · intro wq hSw; go_simp; try rfl
                  simp only [Act.put, List.setIfInBounds_toArray, List.set_cons_zero, List.set_cons_succ]
                  refine take_at 15 (some 175) (v := ?_) rfl rfl (by kernel_rfl) (by kernel_rfl) (by kernel_rfl) (fun _ _ _ h => h) ⟨by rfl, ?_⟩ hS ?_
                  rotate_left
                  · intro wq hSw; go_simp; try rfl
                  simp only [Act.put, List.setIfInBounds_toArray, List.set_cons_zero, List.set_cons_succ]
                  refine wpAnyH_ready (rs := [9, 16, 19]) (by kernel_rfl) (by simp) ?_
                  refine AllReadyH.cons rfl (fun K hK => ?_) (AllReadyH.cons rfl (fun K hK => ?_) (AllReadyH.cons rfl (fun K hK => ?_) AllReadyH.nil))
                  · rename_i zz1 zz2 zz3 zz4 zz5 zz6 zz7 zz8 zz9 zz10 zz11 zz12 zz13 zz14 zz15 zz16 zz17 zz18 zz19 zz20 zz21 zz22 zz23 zz24 zz25 zz26 zz27 zz28
                    (try clear zz24)
                    (try clear zz23)
                    (try clear zz22)
                    (try clear zz21)
                    (try clear zz20)
                    (try clear zz19)
                    (try clear zz18)
                    (try clear zz17)
                    (try clear zz16)
                    (try clear zz15)
                    (try clear zz14)
                    (try clear zz13)
                    (try clear zz12)
                    (try clear zz11)
                    (try clear zz10)
                    (try clear zz9)
                    (try clear zz8)
                    (try clear zz7)
                    (try clear zz6)
                    (try clear zz5)
                    (try clear zz4)
                    (try clear zz3)
                    (try clear zz2)
                    (try clear zz1)
                    revert w0 w B L bs ws ps qs gB cB gW cW gP cP aR cR eW HX HL1 HL2 nb nb0 m1 np np0 m2 HNB HNP nr ST0 zz3 w2 M eB eP eR u5 u15 u16 u17 u18 u19 u20 u21 u22 u23 u24 u25 u26 u27 u28 u29 u30 u31 u32 u33 u34 u35 u36 u37 u38 u39 u40 u41 u42 u43 u44 u45 u46 u47 u48 u49 u50 u51 u52 u53 u54 u55 u56 u57 u58 u59 u60 u61 u62 u63 u64 u65 u66 u67 u68 u69 u70 u71 u72 u73 u74 u75 u76 u77 u78 u79 u80 u81 u82 u83 u84 u85 u86 u87 u88 u89 u90 u91 u92 u93 u94 u95 u96 u97 T zB zW aM cM aV cV u7 u8 u9 u98 u99 u100 u101 u102 u103 u104 u105 u106 u107 u108 u109 u110 u111 u112 u113 u114 u115 u116 u117 u118 u119 u120 u121 u122 u123 u124 u125 u126 u127 u128 u129 u130 u131 u132 u133 u134 u135 u136 u137 u138 u139 u140 u141 u142 u143 wx zz18 wr u11 u12 u144 u145 u146 u147 u148 u149 u150 u151 u152 u153 u154 u155 u156 u157 u158 u159 u160 u161 u162 u163 u164 u165 u166 u167 u168 u169 u170 u171 u172 u173 u174 u175 u176 u177 u178 u179 u180 u181 u182 u183 u184 i lab I U hi SAH hlt d1 d2 hip pn pl pc pg ta tc tb td RP n m CI GI HPS HN HM hn3 hm3 zM aQ cQ HP SPH I23 FM zz20 zz21 w3 P lab1 H1 HTC HTG U1 HTG1 HU1 zz25 zz26 zz27 zz28 u0 hS HA0 e7 e8 K hK
                    exact h1.out
                  · rename_i zz1 zz2 zz3 zz4 zz5 zz6 zz7 zz8 zz9 zz10 zz11 zz12 zz13 zz14 zz15 zz16 zz17 zz18 zz19 zz20 zz21 zz22 zz23 zz24 zz25 zz26 zz27 zz28
                    (try clear zz24)
                    (try clear zz23)
                    (try clear zz22)
                    (try clear zz21)
                    (try clear zz20)
                    (try clear zz19)
                    (try clear zz18)
                    (try clear zz17)
                    (try clear zz16)
                    (try clear zz15)
                    (try clear zz14)
                    (try clear zz13)
                    (try clear zz12)
                    (try clear zz11)
                    (try clear zz10)
                    (try clear zz9)
                    (try clear zz8)
                    (try clear zz7)
                    (try clear zz6)
                    (try clear zz5)
                    (try clear zz4)
                    (try clear zz3)
                    (try clear zz2)
                    (try clear zz1)
                    revert w0 w B L bs ws ps qs gB cB gW cW gP cP aR cR eW HX HL1 HL2 nb nb0 m1 np np0 m2 HNB HNP nr ST0 zz3 w2 M eB eP eR u5 u15 u16 u17 u18 u19 u20 u21 u22 u23 u24 u25 u26 u27 u28 u29 u30 u31 u32 u33 u34 u35 u36 u37 u38 u39 u40 u41 u42 u43 u44 u45 u46 u47 u48 u49 u50 u51 u52 u53 u54 u55 u56 u57 u58 u59 u60 u61 u62 u63 u64 u65 u66 u67 u68 u69 u70 u71 u72 u73 u74 u75 u76 u77 u78 u79 u80 u81 u82 u83 u84 u85 u86 u87 u88 u89 u90 u91 u92 u93 u94 u95 u96 u97 T zB zW aM cM aV cV u7 u8 u9 u98 u99 u100 u101 u102 u103 u104 u105 u106 u107 u108 u109 u110 u111 u112 u113 u114 u115 u116 u117 u118 u119 u120 u121 u122 u123 u124 u125 u126 u127 u128 u129 u130 u131 u132 u133 u134 u135 u136 u137 u138 u139 u140 u141 u142 u143 wx zz18 wr u11 u12 u144 u145 u146 u147 u148 u149 u150 u151 u152 u153 u154 u155 u156 u157 u158 u159 u160 u161 u162 u163 u164 u165 u166 u167 u168 u169 u170 u171 u172 u173 u174 u175 u176 u177 u178 u179 u180 u181 u182 u183 u184 i lab I U hi SAH hlt d1 d2 hip pn pl pc pg ta tc tb td RP n m CI GI HPS HN HM hn3 hm3 zM aQ cQ HP SPH I23 FM zz20 zz21 w3 P lab1 H1 HTC HTG U1 HTG1 HU1 zz25 zz26 zz27 zz28 u0 hS HA0 e7 e8 K hK
                    exact h2.out
                  · rename_i zz1 zz2 zz3 zz4 zz5 zz6 zz7 zz8 zz9 zz10 zz11 zz12 zz13 zz14 zz15 zz16 zz17 zz18 zz19 zz20 zz21 zz22 zz23 zz24 zz25 zz26 zz27 zz28
                    (try clear zz24)
                    (try clear zz23)
                    (try clear zz22)
                    (try clear zz21)
                    (try clear zz20)
                    (try clear zz19)
                    (try clear zz18)
                    (try clear zz17)
                    (try clear zz16)
                    (try clear zz15)
                    (try clear zz14)
                    (try clear zz13)
                    (try clear zz12)
                    (try clear zz11)
                    (try clear zz10)
                    (try clear zz9)
                    (try clear zz8)
                    (try clear zz7)
                    (try clear zz6)
                    (try clear zz5)
                    (try clear zz4)
                    (try clear zz3)
                    (try clear zz2)
                    (try clear zz1)
                    revert w0 w B L bs ws ps qs gB cB gW cW gP cP aR cR eW HX HL1 HL2 nb nb0 m1 np np0 m2 HNB HNP nr ST0 zz3 w2 M eB eP eR u5 u15 u16 u17 u18 u19 u20 u21 u22 u23 u24 u25 u26 u27 u28 u29 u30 u31 u32 u33 u34 u35 u36 u37 u38 u39 u40 u41 u42 u43 u44 u45 u46 u47 u48 u49 u50 u51 u52 u53 u54 u55 u56 u57 u58 u59 u60 u61 u62 u63 u64 u65 u66 u67 u68 u69 u70 u71 u72 u73 u74 u75 u76 u77 u78 u79 u80 u81 u82 u83 u84 u85 u86 u87 u88 u89 u90 u91 u92 u93 u94 u95 u96 u97 T zB zW aM cM aV cV u7 u8 u9 u98 u99 u100 u101 u102 u103 u104 u105 u106 u107 u108 u109 u110 u111 u112 u113 u114 u115 u116 u117 u118 u119 u120 u121 u122 u123 u124 u125 u126 u127 u128 u129 u130 u131 u132 u133 u134 u135 u136 u137 u138 u139 u140 u141 u142 u143 wx zz18 wr u11 u12 u144 u145 u146 u147 u148 u149 u150 u151 u152 u153 u154 u155 u156 u157 u158 u159 u160 u161 u162 u163 u164 u165 u166 u167 u168 u169 u170 u171 u172 u173 u174 u175 u176 u177 u178 u179 u180 u181 u182 u183 u184 i lab I U hi SAH hlt d1 d2 hip pn pl pc pg ta tc tb td RP n m CI GI HPS HN HM hn3 hm3 zM aQ cQ HP SPH I23 FM zz20 zz21 w3 P lab1 H1 HTC HTG U1 HTG1 HU1 zz25 zz26 zz27 zz28 u0 hS HA0 e7 e8 K hK
                    exact h3.out
                case rest =>
                  clear h1 h2 h3
                  obtain ⟨R, a1, c1, a2, c2, labR, rfl, hq⟩ := hcut
                  have GX := hide (show ctrsC (mkC i n 0) ++ [.int .i64 (-(i : Int)), .int .i64 0, .int .i64 0, .int .i64 0, .int .i64 0] = ctrsC (mkC i (n + 1) 1) ∧ grpsC (mkG i m 0) ++ [.int .i64 (-(i : Int)), .int .i64 0] = grpsC (mkG i (m + 1) 1) from ⟨by rw [← mkC_more]; exact (rows_app ctrC (mkC i n 0) [⟨-(i : Int), 0, 0, 0, 0⟩]).symm, by rw [← mkG_more]; exact (rows_app grpC (mkG i m 0) [⟨-(i : Int), 0⟩]).symm⟩)
                  simp only [GX.out.1, GX.out.2] at hq
                  obtain ⟨x, hx⟩ : ∃ z : PageM × At, z = (⟨pn, pl, mkC i (n + 1) 1, mkG i (m + 1) 1⟩, ⟨a1, c1, a2, c2⟩) := ⟨_, rfl⟩
                  have hxC : itC x = ⟨57, 5, .slice a1 (n + 1) c1, n + 1, ctrsC (mkC i (n + 1) 1)⟩ := by rw [hx]; simp only [itC, vC, mkC_len]
                  have hxG : itG x = ⟨59, 2, .slice a2 (m + 1) c2, m + 1, grpsC (mkG i (m + 1) 1)⟩ := by rw [hx]; simp only [itG, vG, mkG_len]
                  have hxP : pgC x = [.int .i64 pn, .int .i64 pl, .slice a1 (n + 1) c1, .slice a2 (m + 1) c2] := by rw [hx]; simp only [pgC, mkC_len, mkG_len]
                  rw [← hxC, ← hxG] at hq
                  have HXX := hide (show x.1.cs = mkC i (n + 1) 1 ∧ x.1.gs = mkG i (m + 1) 1 from by rw [hx]; exact ⟨rfl, rfl⟩)
                  have HXP := hide hxP
                  clear hx hxC hxG hxP GX
                  have HQ0 := hide hq
                  clear hq
                  have xc := (HQ0.out.xs (R, [.int .i64 pn, .int .i64 pl, .slice a1 (n + 1) c1, .slice a2 (m + 1) c2]) (by simp)).cells
                  obtain ⟨x0, -⟩ := xc.get 0 _ rfl
                  obtain ⟨x1, -⟩ := xc.get 1 _ rfl
                  obtain ⟨x2, -⟩ := xc.get 2 _ rfl
                  obtain ⟨x3, -⟩ := xc.get 3 _ rfl
                  clear xc
                  obtain ⟨m0, -⟩ := HQ0.out.m (j := 2) rfl
                  have HQ1 := hide (HQ0.out.below (alloc_below wc (.cells #[.int .i64 pn, .int .i64 pl, .slice a1 (n + 1) c1, .slice a2 (m + 1) c2] 27)))
                  obtain ⟨vv, xq, r1, ⟨aM2, cM2, e1⟩, -, hh, -⟩ := HQ1.out.push (t0 := 49) Tryd.underlying49 inf27 rfl (by decide) (by decide) 49 (key := 23) (by omega) (by rw [tput_other _ _ (by omega), HU1.out, tput_other _ _ (by omega)]; exact SAH.out.tn 23 (by omega) (by omega)) (by rw [put_other _ _ (by omega), put_other _ _ (by omega)]; exact I23.out) ⟨wc.heap.size, 0, none⟩ 1 1 [.int .i64 pn, .int .i64 pl, .slice a1 (n + 1) c1, .slice a2 (m + 1) c2] rfl (lies_cells2 wc #[.int .i64 pn, .int .i64 pl, .slice a1 (n + 1) c1, .slice a2 (m + 1) c2] 27) (by simp [Value.oneCell']) (by omega)
                  subst e1
                  have HQ2 := hide hh
                  have R1 := hide r1
                  clear hh r1
                  obtain ⟨m1, m2x⟩ := HQ2.out.m (j := 2) rfl
                  have HQ3 := hide (HQ2.out.mset (j := 2) (by simp) (.slice aM2 (i + 1) cM2))
                  simp only [List.set_cons_succ, List.set_cons_zero] at HQ3
                  have SPN := hide (SPH.out.grow hip FM.out.1 FM.out.2 (mP' := .slice aM2 (i + 1) cM2) (x := x) (J := put (put (put I (200 + 2 * i) (itC x)) (201 + 2 * i) (itG x)) 23 ⟨27, 4, .slice aM2 (i + 1) cM2, i + 1, rowsC pgC zM ++ [.int .i64 pn, .int .i64 pl, .slice a1 (n + 1) c1, .slice a2 (m + 1) c2]⟩) (U := tput U1 (201 + 2 * i) (tb, grpsC (mkG i m 0))) (by rw [HXX.out.1, HPS.out, ← HN.out]) (by rw [HXX.out.2, HPS.out, ← HM.out]) (fun k h1 h2 h3 => by rw [put_other _ _ h3, put_other _ _ h2, put_other _ _ h1]) (by rw [put_other _ _ (by omega), put_other _ _ (by omega), put_same]) (by rw [put_other _ _ (by omega), put_same]) (by rw [put_same, rows_app, ← HXP.out]; simp [rowsC]) (fun k h1 h2 => by rw [tput_other _ _ h2, HU1.out, tput_other _ _ h1]) (by rw [tput_other _ _ (by omega), HU1.out, tput_same, HPS.out, ← HN.out]) (by rw [tput_same, HPS.out, ← HM.out]))
                  have SAN := hide (((((SAH.out.put (200 + 2 * i) (itC x) (by omega)).put (201 + 2 * i) (itG x) (by omega)).put 23 ⟨27, 4, .slice aM2 (i + 1) cM2, i + 1, rowsC pgC zM ++ [.int .i64 pn, .int .i64 pl, .slice a1 (n + 1) c1, .slice a2 (m + 1) c2]⟩ (by omega)).tput (200 + 2 * i) (ta, ctrsC (mkC i n 0)) (by omega)).tput (201 + 2 * i) (tb, grpsC (mkG i m 0)) (by omega))
                  rw [← HU1.out] at SAN
                  have HQ4 := hide (HQ3.out.less (ys := []) (fun y hy => by cases hy))
                  clear HQ0 HQ1 HQ2 HQ3 HP SAH SPH CI GI
                  go_wp2_with (at_builtin; refine wpList_run rfl (.tmp 180) (.tmp 182) rfl rfl rfl R1.out ?_)
                  go_roundw
                  case rel => exact ⟨i + 1, _, _, _, _, by go_num, by omega, HQ4.out, SAN.out, SPN.out⟩
                  case measure => simp [intOf]; omega
              · obtain rfl : np = i := by omega
                have d1 : decide ((np : Int) < (np : Int)) = false := decide_eq_false (by omega)
                clear h1 h2 h3
                obtain ⟨wx, hwx⟩ : ∃ x, x = wr := ⟨_, rfl⟩
                subst hwx
                obtain ⟨zM, hzM1, hzM2, hzM3⟩ := SPH.out.mP
                obtain ⟨gQ, cQ, eQ⟩ := HP.out.opn hzM1 np0
                subst eQ
                have hzM1b := hzM1
                have RP := hide (show I 3 = some ⟨27, 4, .slice (some ⟨gP, 0, none⟩) np cP, np, rowsC pgC ps⟩ by have := HNP.out; rw [SPH.out.rP, ← this])
                have FD := hide (show ∀ j, j < np → ∃ (p : PageM) (t : At) (x : PageM) (u : At), p.cs.length ≤ 1000 ∧ p.gs.length ≤ 1000 ∧ x.cs = mkC j (p.cs.length + 1) 1 ∧ x.gs = mkG j (p.gs.length + 1) 1 ∧ ∀ wq, Below wx.heap.size wx wq → (wq.cell? ⟨gP, j * 4, none⟩ = some (.int .i64 p.num) ∧ wq.cell? ⟨gP, j * 4 + 1, none⟩ = some (.int .i64 p.lsn) ∧ wq.cell? ⟨gP, j * 4 + 2, none⟩ = some (.slice t.a p.cs.length t.c) ∧ wq.cell? ⟨gP, j * 4 + 3, none⟩ = some (.slice t.b p.gs.length t.d)) ∧
                  (wq.cell? ⟨gQ, j * 4, none⟩ = some (.int .i64 x.num) ∧ wq.cell? ⟨gQ, j * 4 + 1, none⟩ = some (.int .i64 x.lsn) ∧ wq.cell? ⟨gQ, j * 4 + 2, none⟩ = some (.slice u.a x.cs.length u.c) ∧ wq.cell? ⟨gQ, j * 4 + 3, none⟩ = some (.slice u.b x.gs.length u.d)) ∧ Lies wq t.a (ctrsC (mkC j p.cs.length 0)) ∧ Lies wq t.b (grpsC (mkG j p.gs.length 0)) ∧ Lies wq u.a (ctrsC x.cs) ∧ Lies wq u.b (grpsC x.gs) from by
                  intro j hj
                  have hjp : j < ps.length := by have := HNP.out; omega
                  obtain ⟨x, hx1, hx2, hx3, hx4, hx5⟩ := hzM3 j hjp hj
                  obtain ⟨k1, k2⟩ := HL2.out ps[j] (List.getElem_mem hjp)
                  refine ⟨ps[j].1, ps[j].2, x.1, x.2, k1, k2, hx2, hx3, fun wq hb => ?_⟩
                  have hq := HP.out.below hb
                  have hjz : j < zM.length := by omega
                  have exj : zM[j] = x := by rw [List.getElem?_eq_getElem hjz] at hx1; exact Option.some.inj hx1
                  obtain ⟨t1, t2⟩ := SPH.out.told j hjp hj
                  have c1 := hq.pg RP.out hjp
                  have c2 := hq.pg hzM1b hjz
                  rw [exj] at c2
                  exact ⟨c1, c2, (hq.td _ _ _ t1).li, (hq.td _ _ _ t2).li, hq.lies hx4, hq.lies hx5⟩)
                clear hzM1b hzM3
                have CL := hide (show ∀ wq, Below wx.heap.size wx wq → wq.cell? ⟨L, 0, none⟩ = some (.slice (some ⟨gB, 0, none⟩) nb cB) ∧ wq.cell? ⟨L, 1, none⟩ = some (.slice (some ⟨gW, 0, none⟩) nb cW) ∧ wq.cell? ⟨L, 2, none⟩ = some (.slice (some ⟨gP, 0, none⟩) np cP) ∧ wq.cell? ⟨M, 0, none⟩ = some (.slice aM nb cM) ∧ wq.cell? ⟨M, 1, none⟩ = some (.slice aV nb cV) ∧ wq.cell? ⟨M, 2, none⟩ = some (.slice (some ⟨gQ, 0, none⟩) np cQ) from fun wq hb => ⟨(HP.out.below hb).l (j := 0) rfl, (HP.out.below hb).l (j := 1) rfl, (HP.out.below hb).l (j := 2) rfl, ((HP.out.below hb).m (j := 0) rfl).1, ((HP.out.below hb).m (j := 1) rfl).1, ((HP.out.below hb).m (j := 2) rfl).1⟩)
                clear SPH hzM1 hzM2
                go_wp2_with fail
                clear y2 d1
                go_loopw [13] (fun v wz => ∃ (j : Nat), v = .int .i64 (j : Int) ∧ j ≤ np ∧ Below wx.heap.size wx wz) (fun v _ => np + 1 - (intOf v).toNat)
                case atStart => exact ⟨0, rfl, Nat.zero_le _, Below.refl _ _⟩
                case round =>
                  obtain ⟨j, rfl, hj, hb⟩ := hrel
                  have HB := hide hb
                  obtain ⟨q0, q1, q2, q3, q4, q5⟩ := CL.out _ hb
                  clear hb q0 q1 q3 q4
                  by_cases hlt : j < np
                  · have d1 : decide ((j : Int) < (np : Int)) = true := decide_eq_true (by omega)
                    have d2 : (j : Int) < (np : Int) := by omega
                    obtain ⟨p, t, x, u, k1, k2, k3, k4, RK⟩ := FD.out j hlt
                    have RKH := hide RK
                    obtain ⟨⟨c0, c1, c2, c3⟩, -⟩ := RK wr HB.out
                    clear RK
                    have MK1 := hide (show ∀ wq, Below wx.heap.size wx wq → Calls Tryd.prog 44 #[.agg #[.int .i64 p.num, .int .i64 p.lsn, .slice t.a p.cs.length t.c, .slice t.b p.gs.length t.d], .int .i64 (j : Int), .int .i64 0] wq fun e w' => e = .returned (.bool true) ∧ Below wq.heap.size wq w' from fun wq hb => by
                      have q := marked_any ⟨p.num, p.lsn, mkC j p.cs.length 0, mkG j p.gs.length 0⟩ t j 0 wq (RKH.out wq hb).2.2.1 (RKH.out wq hb).2.2.2.1 (by omega) (by omega) (fun k hk => by simp only [mkC_len] at hk ⊢; simp [mkC]) (fun k hk => by simp only [mkG_len] at hk ⊢; simp [mkG]) (by simp only [mkC_len]; omega) (by simp only [mkG_len]; omega)
                      simp only [pageV, mkC_len, mkG_len] at q
                      exact q)
                    have MK2 := hide (show ∀ wq, Below wx.heap.size wx wq → Calls Tryd.prog 44 #[.agg #[.int .i64 x.num, .int .i64 x.lsn, .slice u.a x.cs.length u.c, .slice u.b x.gs.length u.d], .int .i64 (j : Int), .int .i64 1] wq fun e w' => e = .returned (.bool true) ∧ Below wq.heap.size wq w' from fun wq hb => by
                      have q := marked_any ⟨x.num, x.lsn, x.cs, x.gs⟩ u j 1 wq (RKH.out wq hb).2.2.2.2.1 (RKH.out wq hb).2.2.2.2.2 (by omega) (by omega) (fun k hk => by simp only [k3, mkC_len] at hk ⊢; simp [mkC]) (fun k hk => by simp only [k4, mkG_len] at hk ⊢; simp [mkG]) (by simp only [k3, mkC_len]; omega) (by simp only [k4, mkG_len]; omega)
                      simp only [pageV] at q
                      exact q)
                    have CX2 := hide (show ∀ wq, Below wx.heap.size wx wq → wq.cell? ⟨gQ, j * 4, none⟩ = some (.int .i64 x.num) ∧ wq.cell? ⟨gQ, j * 4 + 1, none⟩ = some (.int .i64 x.lsn) ∧ wq.cell? ⟨gQ, j * 4 + 2, none⟩ = some (.slice u.a x.cs.length u.c) ∧ wq.cell? ⟨gQ, j * 4 + 3, none⟩ = some (.slice u.b x.gs.length u.d) from fun wq hb => (RKH.out wq hb).2.1)
                    clear RKH k1 k2 k3 k4
                    generalize p.num = pn at *
                    generalize p.lsn = pl at *
                    generalize p.cs.length = n at *
                    generalize p.gs.length = m at *
                    generalize x.num = xn at *
                    generalize x.lsn = xl at *
                    generalize x.cs.length = n2 at *
                    generalize x.gs.length = m2 at *
                    go_wp2_with fail
                    refine (MK1.out _ HB.out).mono ?_
                    rintro e y1 ⟨rfl, hh⟩
                    have HB1 := hide (HB.out.trans (hh.mono HB.out.size))
                    clear hh q2 q5 c0 c1 c2 c3
                    obtain ⟨q0, q1, q2, q3, q4, q5⟩ := CL.out _ HB1.out
                    clear q0 q1 q2 q3 q4
                    obtain ⟨c0, c1, c2, c3⟩ := CX2.out _ HB1.out
                    go_wp2_with fail
                    refine (MK2.out _ HB1.out).mono ?_
                    rintro e y2 ⟨rfl, hh⟩
                    have HB2 := hide (HB1.out.trans (hh.mono HB1.out.size))
                    clear hh q5 c0 c1 c2 c3
                    go_wp2_with fail
                    go_roundw
                    case rel => exact ⟨j + 1, by go_num, by omega, HB2.out⟩
                    case measure => simp [intOf]; omega
                  · obtain rfl : np = j := by omega
                    have d1 : decide ((np : Int) < (np : Int)) = false := decide_eq_false (by omega)
                    obtain ⟨wy, hwy⟩ : ∃ x, x = wr := ⟨_, rfl⟩
                    subst hwy
                    obtain ⟨zB, hB1, hB2⟩ := SAH.out.mB
                    obtain ⟨zV, hV1, hV2⟩ := SAH.out.mW
                    obtain ⟨zW, hW1, hW2⟩ := SAH.out.rW
                    obtain ⟨gM, cM2, e1⟩ := HP.out.opn hB1 nb0
                    obtain ⟨gV, cV2, e2⟩ := HP.out.opn hV1 nb0
                    cases e1
                    cases e2
                    have FE := hide (show ∀ j, j < nb → ∃ (g c : Nat) (v : Value) (a2 : Option Addr) (c2 : Nat), v = .slice a2 1026 c2 ∧ ∀ wq, Below wx.heap.size wx wq → wq.cell? ⟨gB, j, none⟩ = some (.slice (some ⟨g, 0, none⟩) 1024 c) ∧ wq.cell? ⟨gW, j, none⟩ = some (.string (strOf (rep 1024 j))) ∧ wq.cell? ⟨gM, j, none⟩ = some (.slice a2 1026 c2) ∧ wq.cell? ⟨gV, j, none⟩ = some (.string (strOf (rep 1026 j))) ∧ (convert 22 9 (.slice (some ⟨g, 0, none⟩) 1024 c)).run Tryd.prog wq = .ok (.string (strOf (rep 1024 j))) wq ∧ (convert 22 9 (.slice a2 1026 c2)).run Tryd.prog wq = .ok (.string (strOf (rep 1026 j))) wq from by
                  intro j hj
                  have hjb : j < bs.length := by have := HNB.out; omega
                  obtain ⟨g, c, eg⟩ := HX.out j hjb
                  obtain ⟨a, c', e, t⟩ := SAH.out.told j hjb hj
                  rw [eg] at e
                  cases e
                  obtain ⟨v, hv, iv⟩ := hB2 j hj
                  obtain ⟨a2, c2, ev⟩ := HP.out.sl iv
                  subst ev
                  refine ⟨g, c, _, a2, c2, rfl, fun wq hb => ?_⟩
                  have hq := HP.out.below hb
                  have rB := SAH.out.rB
                  have hnb := HNB.out
                  rw [← hnb] at rB
                  have hW1' := hW1
                  rw [← hnb] at hW1'
                  exact ⟨(hq.row rB (j := j) (by rw [← eg]; simp [hjb])).1, (hq.row hW1' (hW2 j hj)).1, (hq.row hB1 hv).1, (hq.row hV1 (hV2 j hj)).1, conv_rep (hq.td _ _ _ t).li (by simp), conv_rep (hq.lies iv) (by simp)⟩)
                    clear hB1 hB2 hV1 hV2 hW1 hW2 SAH FD
                    go_wp2_with fail
                    clear q2 q5 d1
                    go_loopw [14] (fun v wz => ∃ (j : Nat), v = .int .i64 (j : Int) ∧ j ≤ nb ∧ Below wx.heap.size wx wz) (fun v _ => nb + 1 - (intOf v).toNat)
                    case atStart => exact ⟨0, rfl, Nat.zero_le _, HB.out⟩
                    case round =>
                      obtain ⟨j, rfl, hj, hb⟩ := hrel
                      have HB3 := hide hb
                      obtain ⟨q0, q1, q2, q3, q4, q5⟩ := CL.out _ hb
                      clear hb q1 q2 q3 q4 q5
                      by_cases hlt : j < nb
                      · have d1 : decide ((j : Int) < (nb : Int)) = true := decide_eq_true (by omega)
                        have d2 : (j : Int) < (nb : Int) := by omega
                        obtain ⟨g, c, v, a2, c2, -, RK⟩ := FE.out j hlt
                        generalize strOf (rep 1024 j) = S1 at *
                        generalize strOf (rep 1026 j) = S2 at *
                        have RKH := hide RK
                        clear RK
                        go_upto_region 38 with fail
                        refine wp_region_held_drew (S := fun wq => Below wx.heap.size wx wq) (by kernel_rfl) HB3.out.drew (fun hS => ?_)
                        clear q0
                        refine take_at 0 (some 223) (v := ?_) rfl rfl (by kernel_rfl) (by kernel_rfl) (by kernel_rfl) (fun _ _ _ h => h) ⟨by rfl, ?_⟩ hS ?_
                        rotate_left
                        · intro wq hSw; go_simp; try rfl
                        simp only [Act.put, List.setIfInBounds_toArray, List.set_cons_zero, List.set_cons_succ]
                        refine take_at 1 (some 224) (v := ?_) rfl rfl (by kernel_rfl) (by kernel_rfl) (by kernel_rfl) (fun _ _ _ h => h) ⟨by rfl, ?_⟩ hS ?_
                        rotate_left
                        · intro wq hSw; go_simp; try rfl
                        simp only [Act.put, List.setIfInBounds_toArray, List.set_cons_zero, List.set_cons_succ]
                        refine take_at 2 (some 225) (v := ?_) rfl rfl (by kernel_rfl) (by kernel_rfl) (by kernel_rfl) (fun _ _ _ h => h) ⟨by rfl, ?_⟩ hS ?_
                        rotate_left
                        · intro wq hSw; go_simp; try rfl
                        simp only [Act.put, List.setIfInBounds_toArray, List.set_cons_zero, List.set_cons_succ]
                        refine take_at 3 (some 226) (v := ?_) rfl rfl (by kernel_rfl) (by kernel_rfl) (by kernel_rfl) (fun _ _ _ h => h) ⟨by rfl, ?_⟩ hS ?_
                        rotate_left
                        · intro wq hSw; obtain ⟨q0, q1, q2, q3, q4, q5⟩ := CL.out wq hSw; obtain ⟨r0, r1, r2, r3, r4, r5⟩ := RKH.out wq hSw; go_simp; try rfl
                        simp only [Act.put, List.setIfInBounds_toArray, List.set_cons_zero, List.set_cons_succ]
                        refine take_at 4 (some 227) (v := ?_) rfl rfl (by kernel_rfl) (by kernel_rfl) (by kernel_rfl) (fun _ _ _ h => h) ⟨by rfl, ?_⟩ hS ?_
                        rotate_left
                        · intro wq hSw; go_simp; try rfl
                        simp only [Act.put, List.setIfInBounds_toArray, List.set_cons_zero, List.set_cons_succ]
                        refine take_at 5 (some 228) (v := ?_) rfl rfl (by kernel_rfl) (by kernel_rfl) (by kernel_rfl) (fun _ _ _ h => h) ⟨by rfl, ?_⟩ hS ?_
                        rotate_left
                        · intro wq hSw; go_simp; try rfl
                        simp only [Act.put, List.setIfInBounds_toArray, List.set_cons_zero, List.set_cons_succ]
                        refine take_at 6 (some 229) (v := ?_) rfl rfl (by kernel_rfl) (by kernel_rfl) (by kernel_rfl) (fun _ _ _ h => h) ⟨by rfl, ?_⟩ hS ?_
                        rotate_left
                        · intro wq hSw; obtain ⟨q0, q1, q2, q3, q4, q5⟩ := CL.out wq hSw; obtain ⟨r0, r1, r2, r3, r4, r5⟩ := RKH.out wq hSw; go_simp; try rfl
                        simp only [Act.put, List.setIfInBounds_toArray, List.set_cons_zero, List.set_cons_succ]
                        refine take_at 7 (some 230) (v := ?_) rfl rfl (by kernel_rfl) (by kernel_rfl) (by kernel_rfl) (fun _ _ _ h => h) ⟨by rfl, ?_⟩ hS ?_
                        rotate_left
                        · intro wq hSw; obtain ⟨q0, q1, q2, q3, q4, q5⟩ := CL.out wq hSw; obtain ⟨r0, r1, r2, r3, r4, r5⟩ := RKH.out wq hSw; go_simp; try rfl
                        simp only [Act.put, List.setIfInBounds_toArray, List.set_cons_zero, List.set_cons_succ]
                        refine take_at 8 (some 231) (v := ?_) rfl rfl (by kernel_rfl) (by kernel_rfl) (by kernel_rfl) (fun _ _ _ h => h) ⟨by rfl, ?_⟩ hS ?_
                        rotate_left
                        · intro wq hSw; go_simp; try rfl
                        simp only [Act.put, List.setIfInBounds_toArray, List.set_cons_zero, List.set_cons_succ]
                        refine take_at 9 (some 232) (v := ?_) rfl rfl (by kernel_rfl) (by kernel_rfl) (by kernel_rfl) (fun _ _ _ h => h) ⟨by rfl, ?_⟩ hS ?_
                        rotate_left
                        · intro wq hSw; go_simp; try rfl
                        simp only [Act.put, List.setIfInBounds_toArray, List.set_cons_zero, List.set_cons_succ]
                        refine take_at 10 (some 233) (v := ?_) rfl rfl (by kernel_rfl) (by kernel_rfl) (by kernel_rfl) (fun _ _ _ h => h) ⟨by rfl, ?_⟩ hS ?_
                        rotate_left
                        · intro wq hSw; go_simp; try rfl
                        simp only [Act.put, List.setIfInBounds_toArray, List.set_cons_zero, List.set_cons_succ]
                        refine take_at 11 (some 234) (v := ?_) rfl rfl (by kernel_rfl) (by kernel_rfl) (by kernel_rfl) (fun _ _ _ h => h) ⟨by rfl, ?_⟩ hS ?_
                        rotate_left
                        · intro wq hSw; obtain ⟨q0, q1, q2, q3, q4, q5⟩ := CL.out wq hSw; obtain ⟨r0, r1, r2, r3, r4, r5⟩ := RKH.out wq hSw; go_simp; try rfl
                        simp only [Act.put, List.setIfInBounds_toArray, List.set_cons_zero, List.set_cons_succ]
                        refine take_at 12 (some 235) (v := ?_) rfl rfl (by kernel_rfl) (by kernel_rfl) (by kernel_rfl) (fun _ _ _ h => h) ⟨by rfl, ?_⟩ hS ?_
                        rotate_left
                        · intro wq hSw; go_simp; try rfl
                        simp only [Act.put, List.setIfInBounds_toArray, List.set_cons_zero, List.set_cons_succ]
                        refine take_at 13 (some 236) (v := ?_) rfl rfl (by kernel_rfl) (by kernel_rfl) (by kernel_rfl) (fun _ _ _ h => h) ⟨by rfl, ?_⟩ hS ?_
                        rotate_left
                        · intro wq hSw; go_simp; try rfl
                        simp only [Act.put, List.setIfInBounds_toArray, List.set_cons_zero, List.set_cons_succ]
                        refine take_at 14 (some 237) (v := ?_) rfl rfl (by kernel_rfl) (by kernel_rfl) (by kernel_rfl) (fun _ _ _ h => h) ⟨by rfl, ?_⟩ hS ?_
                        rotate_left
                        · intro wq hSw; obtain ⟨q0, q1, q2, q3, q4, q5⟩ := CL.out wq hSw; obtain ⟨r0, r1, r2, r3, r4, r5⟩ := RKH.out wq hSw; go_simp; try rfl
                        simp only [Act.put, List.setIfInBounds_toArray, List.set_cons_zero, List.set_cons_succ]
                        refine take_at 15 (some 238) (v := ?_) rfl rfl (by kernel_rfl) (by kernel_rfl) (by kernel_rfl) (fun _ _ _ h => h) ⟨by rfl, ?_⟩ hS ?_
                        rotate_left
                        · intro wq hSw; go_simp; try rfl
                        simp only [Act.put, List.setIfInBounds_toArray, List.set_cons_zero, List.set_cons_succ]
                        refine take_at 16 (some 239) (v := ?_) rfl rfl (by kernel_rfl) (by kernel_rfl) (by kernel_rfl) (fun _ _ _ h => h) ⟨by rfl, ?_⟩ hS ?_
                        rotate_left
                        · intro wq hSw; go_simp; try rfl
                        simp only [Act.put, List.setIfInBounds_toArray, List.set_cons_zero, List.set_cons_succ]
                        refine take_at 17 (some 240) (v := ?_) rfl rfl (by kernel_rfl) (by kernel_rfl) (by kernel_rfl) (fun _ _ _ h => h) ⟨by rfl, ?_⟩ hS ?_
                        rotate_left
                        · intro wq hSw; go_simp; try rfl
                        simp only [Act.put, List.setIfInBounds_toArray, List.set_cons_zero, List.set_cons_succ]
                        refine take_at 18 (some 241) (v := ?_) rfl rfl (by kernel_rfl) (by kernel_rfl) (by kernel_rfl) (fun _ _ _ h => h) ⟨by rfl, ?_⟩ hS ?_
                        rotate_left
                        · intro wq hSw; obtain ⟨q0, q1, q2, q3, q4, q5⟩ := CL.out wq hSw; obtain ⟨r0, r1, r2, r3, r4, r5⟩ := RKH.out wq hSw; go_simp; try rfl
                        simp only [Act.put, List.setIfInBounds_toArray, List.set_cons_zero, List.set_cons_succ]
                        refine take_at 19 (some 242) (v := ?_) rfl rfl (by kernel_rfl) (by kernel_rfl) (by kernel_rfl) (fun _ _ _ h => h) ⟨by rfl, ?_⟩ hS ?_
                        rotate_left
                        · intro wq hSw; go_simp; try rfl
                        simp only [Act.put, List.setIfInBounds_toArray, List.set_cons_zero, List.set_cons_succ]
                        refine take_at 20 (some 243) (v := ?_) rfl rfl (by kernel_rfl) (by kernel_rfl) (by kernel_rfl) (fun _ _ _ h => h) ⟨by rfl, ?_⟩ hS ?_
                        rotate_left
                        · intro wq hSw; go_simp; try rfl
                        simp only [Act.put, List.setIfInBounds_toArray, List.set_cons_zero, List.set_cons_succ]
                        refine take_at 21 (some 244) (v := ?_) rfl rfl (by kernel_rfl) (by kernel_rfl) (by kernel_rfl) (fun _ _ _ h => h) ⟨by rfl, ?_⟩ hS ?_
                        rotate_left
                        · intro wq hSw; obtain ⟨q0, q1, q2, q3, q4, q5⟩ := CL.out wq hSw; obtain ⟨r0, r1, r2, r3, r4, r5⟩ := RKH.out wq hSw; go_simp; try rfl
                        simp only [Act.put, List.setIfInBounds_toArray, List.set_cons_zero, List.set_cons_succ]
                        refine take_at 22 (some 245) (v := ?_) rfl rfl (by kernel_rfl) (by kernel_rfl) (by kernel_rfl) (fun _ _ _ h => h) ⟨by rfl, ?_⟩ hS ?_
                        rotate_left
                        · intro wq hSw; obtain ⟨q0, q1, q2, q3, q4, q5⟩ := CL.out wq hSw; obtain ⟨r0, r1, r2, r3, r4, r5⟩ := RKH.out wq hSw; go_simp; try rfl
                        simp only [Act.put, List.setIfInBounds_toArray, List.set_cons_zero, List.set_cons_succ]
                        refine take_at 23 (some 246) (v := ?_) rfl rfl (by kernel_rfl) (by kernel_rfl) (by kernel_rfl) (fun _ _ _ h => h) ⟨by rfl, ?_⟩ hS ?_
                        rotate_left
                        · intro wq hSw; go_simp; try rfl
                        simp only [Act.put, List.setIfInBounds_toArray, List.set_cons_zero, List.set_cons_succ]
                        refine take_at 24 (some 247) (v := ?_) rfl rfl (by kernel_rfl) (by kernel_rfl) (by kernel_rfl) (fun _ _ _ h => h) ⟨by rfl, ?_⟩ hS ?_
                        rotate_left
                        · intro wq hSw; obtain ⟨q0, q1, q2, q3, q4, q5⟩ := CL.out wq hSw; obtain ⟨r0, r1, r2, r3, r4, r5⟩ := RKH.out wq hSw; go_simp; try rfl
                        simp only [Act.put, List.setIfInBounds_toArray, List.set_cons_zero, List.set_cons_succ]
                        refine take_at 25 (some 248) (v := ?_) rfl rfl (by kernel_rfl) (by kernel_rfl) (by kernel_rfl) (fun _ _ _ h => h) ⟨by rfl, ?_⟩ hS ?_
                        rotate_left
                        · intro wq hSw; go_simp; try rfl
                        simp only [Act.put, List.setIfInBounds_toArray, List.set_cons_zero, List.set_cons_succ]
                        refine take_at 26 (some 249) (v := ?_) rfl rfl (by kernel_rfl) (by kernel_rfl) (by kernel_rfl) (fun _ _ _ h => h) ⟨by rfl, ?_⟩ hS ?_
                        rotate_left
                        · intro wq hSw; go_simp; try rfl
                        simp only [Act.put, List.setIfInBounds_toArray, List.set_cons_zero, List.set_cons_succ]
                        refine take_at 27 (some 250) (v := ?_) rfl rfl (by kernel_rfl) (by kernel_rfl) (by kernel_rfl) (fun _ _ _ h => h) ⟨by rfl, ?_⟩ hS ?_
                        rotate_left
                        · intro wq hSw; obtain ⟨q0, q1, q2, q3, q4, q5⟩ := CL.out wq hSw; obtain ⟨r0, r1, r2, r3, r4, r5⟩ := RKH.out wq hSw; go_simp; try rfl
                        simp only [Act.put, List.setIfInBounds_toArray, List.set_cons_zero, List.set_cons_succ]
                        refine take_at 28 (some 251) (v := ?_) rfl rfl (by kernel_rfl) (by kernel_rfl) (by kernel_rfl) (fun _ _ _ h => h) ⟨by rfl, ?_⟩ hS ?_
                        rotate_left
                        · intro wq hSw; go_simp; try rfl
                        simp only [Act.put, List.setIfInBounds_toArray, List.set_cons_zero, List.set_cons_succ]
                        refine take_at 29 (some 252) (v := ?_) rfl rfl (by kernel_rfl) (by kernel_rfl) (by kernel_rfl) (fun _ _ _ h => h) ⟨by rfl, ?_⟩ hS ?_
                        rotate_left
                        · intro wq hSw; go_simp; try rfl
                        simp only [Act.put, List.setIfInBounds_toArray, List.set_cons_zero, List.set_cons_succ]
                        have D9 := hide hS
                        clear hS
                        refine wpAnyH_done (by kernel_rfl) ?_ _
                        go_wp2_with fail
                        go_roundw
                        case rel => exact ⟨j + 1, by go_num, by omega, D9.out⟩
                        case measure => simp [intOf]; omega
                      · obtain rfl : nb = j := by omega
                        have d1 : decide ((nb : Int) < (nb : Int)) = false := decide_eq_false (by omega)
                        go_wp2_with fail
                        go_ret
                        exact ⟨rfl, HP.out.bb.trans (HB3.out.mono HP.out.bs)⟩
end Go.Proofs.YtakjpljpdlhicaaDoor
