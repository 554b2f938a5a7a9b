import Derived.Test.YtehbpmibllpkhaaGreatDoorUdTa
set_option linter.all false
namespace Go.Proofs.YtehbpmibllpkhaaGreatDoor
open Go.RowKit Go.QK Go.Maps Go.QM Go.QU
set_option maxRecDepth 100000
set_option maxHeartbeats 16000000 in
theorem makes_any {w : World} {B sb : Nat} {s : SV} (h : Sty w B sb s) (hL : Len s) (kd da db dd : Int) (ia : I64 da) (id : I64 dd) (hl : s.R.length ≤ 1000) (hB : B ≤ w.heap.size) (hP : s.P.length ≤ 1000) (hI : s.I.length ≤ 1000) :
    Calls Tryz.prog 53 #[ptr sb, .agg #[.int .i64 kd, .int .i64 da, .int .i64 db, .int .i64 dd]] w fun e w' => e = .returned (.tuple #[]) ∧ (∃ s', Sty w' B sb s' ∧ Grew s s' 1 1 1 ∧ s'.V = s.V) ∧ Below B w w' := by
  obtain ⟨w1, hw1⟩ : ∃ z, z = w.alloc (.cells #[.int .i64 kd, .int .i64 da, .int .i64 db, .int .i64 dd] 102) := ⟨_, rfl⟩
  obtain ⟨X0, hX0⟩ : ∃ z, z = w.heap.size := ⟨_, rfl⟩
  have b1 : Below w.heap.size w w1 := by rw [hw1]; exact alloc_below _ _
  have A1 := hide (show At4 w w1 B sb X0 #[.int .i64 kd, .int .i64 da, .int .i64 db, .int .i64 dd] s from ⟨h.below b1, by rw [hw1, hX0]; exact RBox.new _ _ _, b1.mono hB, b1.size⟩)
  have BR := hide (brought52_any da 5 w1 ia (by decide) (by decide))
  have HX0 := hide hX0
  have HL := hide hL
  have d1 := ((RBox.cells A1.out.dd).get 1 _ rfl).1
  obtain ⟨nI, hnI⟩ : ∃ z, z = s.I.length := ⟨_, rfl⟩
  rw [← hnI] at hI
  have NI := hide hnI
  obtain ⟨aR, cR, aL, cL, aG, cG, aI, cI, aV, cV, aS, cS, e1, e2, e3, e4, e5, e6⟩ := A1.out.st.lens
  rw [← hnI] at e4
  have E4 := hide e4
  clear h hL b1 hnI e1 e2 e3 e4 e5 e6
  go_enter Tryz.func53, Tryz.ntmps53
  go_upto_region 1 with fail
  rw [← hw1, ← hX0]
  clear hw1 hX0
  go_wp2_with fail
  refine BR.out.mono ?_
  rintro e w2 ⟨j, rfl, hj, rfl⟩
  have wj : wrap64 (1 + (j : Int)) = 1 + (j : Int) := wrapI (by unfold I64; omega)
  have wj2 : IntKind.i64.wrap (1 + (j : Int)) = 1 + (j : Int) := by rw [IntKind.wrap_i64]; omega
  clear d1 BR
  go_wp2_with fail
  go_loopw [5, 6] (fun v5 v6 wz => ∃ (at_ : Int) (i : Nat), v5 = .int .i64 at_ ∧ v6 = .int .i64 (i : Int) ∧ -1 ≤ at_ ∧ at_ < (nI : Int) ∧ i ≤ nI ∧ (at_ < 0 → ∀ x ∈ s.I.take i, x ≠ 1 + (j : Int)) ∧ wz = w1) (fun _ v6 _ => nI + 1 - (intOf v6).toNat)
  case atStart => exact ⟨-1, 0, rfl, rfl, Int.le_refl _, by omega, Nat.zero_le _, (fun _ x hx => by simp at hx), by first | rfl | trivial⟩
  case round =>
    obtain ⟨at_, i, rfl, rfl, h1, h2, hi, hnx, hwr⟩ := hrel
    have HNX := hide hnx
    clear hnx
    obtain rfl : w1 = wr := hwr.symm
    have q4 := ((RBox.cells A1.out.st.box).get 4 _ rfl).1
    rw [E4.out] at q4
    by_cases hlt : i < nI
    · have f1 : decide ((i : Int) < (nI : Int)) = true := decide_eq_true (by omega)
      have f2 : (i : Int) < (nI : Int) := by omega
      have hi2 : i < s.I.length := by rw [← NI.out]; exact hlt
      obtain ⟨g, c, ee, qq⟩ := A1.out.st.idAt hi2
      rw [E4.out] at ee
      injection ee with i1 i2 i3
      subst i1
      have q6 := qq _ (Below.refl _ _)
      obtain ⟨x, hx⟩ : ∃ z, z = s.I[i] := ⟨_, rfl⟩
      rw [← hx] at q6
      have HXI := hide hx
      clear hx qq
      by_cases hxe : x = 1 + (j : Int)
      · have f3 : decide (x = 1 + (j : Int)) = true := decide_eq_true hxe
        subst hxe
        go_wp2_with fail
        go_roundw
        case rel => exact ⟨(i : Int), i + 1, rfl, by go_num, by omega, by omega, by omega, (fun h => by omega), by first | rfl | trivial⟩
        case measure => simp [intOf]; omega
      · have f3 : decide (x = 1 + (j : Int)) = false := decide_eq_false hxe
        have f4 : (x == 1 + (j : Int)) = false := by simpa using hxe
        go_wp2_with fail
        go_roundw
        case rel => exact ⟨at_, i + 1, rfl, by go_num, h1, h2, by omega, (fun h y hy => by
          rw [List.take_succ_eq_append_getElem hi2, List.mem_append, List.mem_singleton] at hy
          rcases hy with hy | hy
          · exact HNX.out h y hy
          · rw [hy, ← HXI.out]; exact hxe), by first | rfl | trivial⟩
        case measure => simp [intOf]; omega
    · obtain rfl : nI = i := by omega
      have f1 : decide ((nI : Int) < (nI : Int)) = false := decide_eq_false (by omega)
      obtain ⟨A0, hA0⟩ : ∃ z : Array Value, z = #[.int .i64 kd, .int .i64 da, .int .i64 db, .int .i64 dd] := ⟨_, rfl⟩
      rw [← hA0] at A1
      have HA0 := hide hA0
      clear hA0
      go_upto_if 36 with fail
      clear q4
      go_cut [5] (fun v w' => ∃ (n : Nat) (s' : SV), v = .int .i64 (n : Int) ∧ n < s'.G.length ∧ At4 w w' B sb X0 A0 s' ∧ Len s' ∧ s'.P = s.P ∧ s'.S = s.S ∧ s'.V = s.V ∧ s'.R = s.R ∧ s'.I.length ≤ nI + 1)
      case first =>
        by_cases hneg : at_ < 0
        · have g1 : decide (at_ < 0) = true := decide_eq_true hneg
          have q4 := ((RBox.cells A1.out.st.box).get 4 _ rfl).1
          rw [E4.out] at q4
          have BX := hide (alloc_below w1 (.cells #[.int .i64 (1 + (j : Int))] 3))
          have A2 := hide (A1.out.below BX.out (by have := A1.out.up; omega))
          obtain ⟨w2, hw2⟩ : ∃ z, z = w1.alloc (.cells #[.int .i64 (1 + (j : Int))] 3) := ⟨_, rfl⟩
          have LZ := hide (show Lies w2 (some ⟨w1.heap.size, 0, none⟩) [.int .i64 (1 + (j : Int))] by rw [hw2]; exact lies_cells2 w1 #[.int .i64 (1 + (j : Int))] 3)
          rw [← hw2] at A2 BX
          have g3 := A2.out.st.i
          rw [E4.out, ← NI.out] at g3
          have HB2 := hide (show B ≤ w2.heap.size by have := A2.out.up; omega)
          have G3 := hide g3
          clear g3
          go_upto_region 11 with (first
            | (at_builtin; rw [← hw2]; refine wpList_appW Tryz.underlying35 info3z rfl (by decide) (by decide) rfl (.tmp 46) (.tmp 48) rfl B (.slice aI nI cI) nI _ rfl G3.out _ 1 1 _ rfl rfl LZ.out (by intro u hu; rw [List.mem_singleton] at hu; subst hu; rfl) nofun (by omega) HB2.out ?_; intro v3 w3 p1 p2 p3; obtain ⟨a3, c3, e3, -⟩ := GRow.lies p1; subst e3; have P1 := hide p1; have K3 := hide (grown_keep p2); clear p1 p2 p3 q4; have bx3 := RBox.keepT A2.out.st.box K3.out (ofty_row G3.out) (by decide); obtain ⟨y4, f4⟩ := (RBox.cells bx3).get 4 _ rfl; have BX3 := hide bx3; clear bx3)
            | fail)
          refine named (P := Code.wp _ _ _ _) ?_
          intro w4 hw4
          have e4' : w4 = w3.setCell ⟨sb, 4, none⟩ (.slice a3 (nI + 1) c3) := hw4
          have gI : GRow w3 B 3 1 (.slice a3 (nI + 1) c3) (s.I ++ [1 + (j : Int)]).length (intsV (s.I ++ [1 + (j : Int)])) := by
            rw [List.length_append, ← NI.out]
            unfold intsV
            rw [List.map_append]
            exact P1.out
          have kI := K3.out
          rw [← E4.out] at kI
          have A4 := hide (show At4 w w4 B sb X0 A0 { s with vI := .slice a3 (nI + 1) c3, I := s.I ++ [1 + (j : Int)] } from by
            rw [e4']
            exact ⟨A2.out.st.setI gI kI, box_two A2.out.dd K3.out (ofty_row G3.out) (by decide) BX3.out, below_two A2.out.bw K3.out (fun z hz => (World.ownsRow.lt G3.out z hz).1) A2.out.st.hb hB, Nat.le_trans A2.out.up (Nat.le_trans K3.out.size (by simp))⟩)
          clear hw4 e4' y4 f4 gI kI P1 K3 BX3 A2 G3 LZ BX hw2 HB2
          have q3 := ((RBox.cells A4.out.st.box).get 3 _ rfl).1
          obtain ⟨nG, hnG⟩ : ∃ z, z = s.G.length := ⟨_, rfl⟩
          obtain ⟨aG, cG, eG, -⟩ := GRow.lies A4.out.st.g
          have eG2 : s.vG = .slice aG nG cG := by rw [hnG]; exact eG
          simp only at q3
          rw [eG2] at q3
          have NG := hide hnG
          have EG := hide eG2
          clear eG eG2 hnG
          have A5 := hide (A4.out.below (alloc_below w4 (.cells #[.int .i64 1, .int .i64 (nI : Int)] 43)) (by have := A4.out.up; omega))
          obtain ⟨w5, hw5⟩ : ∃ z, z = w4.alloc (.cells #[.int .i64 1, .int .i64 (nI : Int)] 43) := ⟨_, rfl⟩
          have LZ := hide (show Lies w5 (some ⟨w4.heap.size, 0, none⟩) [.int .i64 1, .int .i64 (nI : Int)] by rw [hw5]; exact lies_cells2 w4 #[.int .i64 1, .int .i64 (nI : Int)] 43)
          rw [← hw5] at A5
          have g3 := A5.out.st.g
          simp only at g3
          rw [EG.out, ← NG.out] at g3
          have HB5 := hide (show B ≤ w5.heap.size by have := A5.out.up; omega)
          have hnG2 : nG ≤ 1000 := by have := HL.out.gi; have := NI.out; have := NG.out; omega
          have G3 := hide g3
          clear g3
          go_wp2_with (first
            | (at_builtin; rw [← hw5]; refine wpList_appW Tryz.underlying70 info43 rfl (by decide) (by decide) rfl (.tmp 56) (.tmp 59) rfl B (.slice aG nG cG) nG _ rfl G3.out _ 1 1 _ rfl rfl LZ.out (by intro u hu; simp only [List.mem_cons, List.not_mem_nil, or_false] at hu; rcases hu with rfl | rfl <;> rfl) nofun (by omega) HB5.out ?_; intro v6 w6 p1 p2 p3; obtain ⟨a6, c6, e6, -⟩ := GRow.lies p1; subst e6; have P1 := hide p1; have K6 := hide (grown_keep p2); clear p1 p2 p3 q3; have bx6 := RBox.keepT A5.out.st.box K6.out (ofty_row G3.out) (by decide); obtain ⟨y3, f3⟩ := (RBox.cells bx6).get 3 _ rfl; have BX6 := hide bx6; clear bx6)
            | fail)
          have gG : GRow w6 B 43 2 (.slice a6 (nG + 1) c6) (s.G ++ [(1, (nI : Int))]).length (rowsC slC (s.G ++ [(1, (nI : Int))])) := by
            rw [List.length_append, ← NG.out, rowsC_app]
            exact P1.out
          have kG := K6.out
          rw [← EG.out] at kG
          have A7 := hide (show At4 w (w6.setCell ⟨sb, 3, none⟩ (.slice a6 (nG + 1) c6)) B sb X0 A0 { s with vI := .slice a3 (nI + 1) c3, I := s.I ++ [1 + (j : Int)], vG := .slice a6 (nG + 1) c6, G := s.G ++ [(1, (nI : Int))] } from
            ⟨A5.out.st.setG gG kG, box_two A5.out.dd K6.out (ofty_row G3.out) (by decide) BX6.out, below_two A5.out.bw K6.out (fun z hz => (World.ownsRow.lt G3.out z hz).1) A5.out.st.hb hB, Nat.le_trans A5.out.up (Nat.le_trans K6.out.size (by simp))⟩)
          clear y3 f3 gG kG
          go_meet
          exact ⟨nI, _, rfl, by show nI < (s.G ++ _).length; rw [List.length_append]; have := HL.out.gi; have := NI.out; simp only [List.length_singleton]; omega, A7.out, ⟨by show (s.G ++ _).length = (s.I ++ _).length; rw [List.length_append, List.length_append, HL.out.gi]; rfl, HL.out.ls, ig_more HL.out.ig (by omega) (fun h => HNX.out hneg _ (by rw [NI.out, List.take_length]; exact h) rfl)⟩, rfl, rfl, rfl, rfl, by show (s.I ++ _).length ≤ _; rw [List.length_append]; have := NI.out; simp only [List.length_singleton]; omega⟩
        · have g1 : decide (at_ < 0) = false := decide_eq_false hneg
          go_wp2_with fail
          go_meet
          exact ⟨at_.toNat, s, by rw [Int.toNat_of_nonneg (by omega)], by have := NI.out; have := HL.out.gi; omega, A1.out, HL.out, rfl, rfl, rfl, rfl, by have := NI.out; omega⟩
      case rest =>
        obtain ⟨n, s1, rfl, hn, a1, ln, hP1, hS1, hV1, hR1, hI1⟩ := hcut
        have A9 := hide a1
        have LN := hide ln
        clear a1 ln h1 h2 A1
        obtain ⟨pn, hpn⟩ : ∃ z : Nat, s1.pages = (z : Int) := ⟨s1.pages.toNat, by have := A9.out.st.pg; omega⟩
        obtain ⟨E, hE⟩ : ∃ z : Nat, z = (pn + 1) / 2 := ⟨_, rfl⟩
        have hpg := A9.out.st.pg
        rw [hpn] at hpg
        have hE1 : 1 ≤ E := by omega
        have hE2 : E ≤ 1000 := by omega
        have Hw1' := hide (wrN (n := pn) (by omega))
        have EE := hide (tdiv_half pn)
        rw [← hE] at EE
        have HwE := hide (wrM hE2)
        obtain ⟨nL, hnL⟩ : ∃ z, z = s1.P.length := ⟨_, rfl⟩
        have hnL1 : nL ≤ 1000 := by rw [hnL, hP1]; exact hP
        obtain ⟨aL, cL, eL, -⟩ := GRow.lies A9.out.st.l
        rw [← hnL] at eL
        have NL := hide hnL
        have EL := hide eL
        have q2 := ((RBox.cells A9.out.st.box).get 2 _ rfl).1
        rw [eL] at q2
        have q0 := ((RBox.cells A9.out.st.box).get 0 _ rfl).1
        rw [hpn] at q0
        have nE : ¬ ((E : Int) = 0) := by omega
        have nE2 : ((E : Int) == 0) = false := by simp; omega
        have nE5 : ¬ E = 0 := by omega
        have nE3 : decide ((E : Int) = 0) = false := decide_eq_false nE
        obtain ⟨x1, hx1⟩ : ∃ z : Nat, z = nL % E := ⟨_, rfl⟩
        obtain ⟨x2, hx2⟩ : ∃ z : Nat, z = nL / E := ⟨_, rfl⟩
        have b1 : x1 < 1000 := by rw [hx1]; exact Nat.lt_of_lt_of_le (Nat.mod_lt nL (show 0 < E by omega)) hE2
        have b2 : x2 ≤ 1000 := by rw [hx2]; exact Nat.le_trans (Nat.div_le_self nL E) hnL1
        have T1 := hide (Int.ofNat_tmod nL E).symm
        have T2 := hide (Int.ofNat_tdiv nL E).symm
        rw [← hx1] at T1
        rw [← hx2] at T2
        clear hx1 hx2 hE
        have Hw2' := hide (wrM (Nat.le_of_lt b1))
        have Hw3' := hide (wrM2 b1)
        have Hw4' := hide (wrM b2)
        clear hpg hnL eL
        have w1' := Hw1'.out.1
        have w1'' := Hw1'.out.2
        have wE := HwE.out.1
        have wE2 := HwE.out.2
        have eE := EE.out
        go_upto_region 14 with fail
        clear w1' w1'' eE wE wE2 q2 q0 EE
        have w2' := Hw2'.out.1
        have w2'' := Hw2'.out.2
        have w3' := Hw3'.out.1
        have w3'' := Hw3'.out.2
        have w4' := Hw4'.out.1
        have w4'' := Hw4'.out.2
        have t1 := T1.out
        have t2 := T2.out
        refine wp_region_held_drew (S := fun wq => True) (by kernel_rfl) trivial (fun hS => ?_)
        have A10 := hide (A9.out.below (Below.refl _ _).drew (by have := A9.out.up; omega))
        generalize wc.drew = we at *
        refine take_at 0 (some 74) (v := ?_) rfl rfl (by kernel_rfl) (by kernel_rfl) (by kernel_rfl) (fun _ _ _ h => h) ⟨by rfl, ?_⟩ hS ?_
        rotate_left
        · intro wq hSw; go_simp; try rfl
        simp only [Act.put, List.setIfInBounds_toArray, List.set_cons_zero, List.set_cons_succ]
        refine take_at 1 (some 75) (v := ?_) rfl rfl (by kernel_rfl) (by kernel_rfl) (by kernel_rfl) (fun _ _ _ h => h) ⟨by rfl, ?_⟩ hS ?_
        rotate_left
        · intro wq hSw; go_simp; try rfl
        simp only [Act.put, List.setIfInBounds_toArray, List.set_cons_zero, List.set_cons_succ]
        refine take_at 2 (some 76) (v := ?_) rfl rfl (by kernel_rfl) (by kernel_rfl) (by kernel_rfl) (fun _ _ _ h => h) ⟨by rfl, ?_⟩ hS ?_
        rotate_left
        · intro wq hSw; go_simp; try rfl
        simp only [Act.put, List.setIfInBounds_toArray, List.set_cons_zero, List.set_cons_succ]
        refine take_at 3 (some 77) (v := ?_) rfl rfl (by kernel_rfl) (by kernel_rfl) (by kernel_rfl) (fun _ _ _ h => h) ⟨by rfl, ?_⟩ hS ?_
        rotate_left
        · intro wq hSw; go_simp; try rfl
        simp only [Act.put, List.setIfInBounds_toArray, List.set_cons_zero, List.set_cons_succ]
        refine take_at 4 (some 78) (v := ?_) rfl rfl (by kernel_rfl) (by kernel_rfl) (by kernel_rfl) (fun _ _ _ h => h) ⟨by rfl, ?_⟩ hS ?_
        rotate_left
        · intro wq hSw; go_simp; try rfl
        simp only [Act.put, List.setIfInBounds_toArray, List.set_cons_zero, List.set_cons_succ]
        refine take_at 5 (some 79) (v := ?_) rfl rfl (by kernel_rfl) (by kernel_rfl) (by kernel_rfl) (fun _ _ _ h => h) ⟨by rfl, ?_⟩ hS ?_
        rotate_left
        · intro wq hSw; go_simp; try rfl
        simp only [Act.put, List.setIfInBounds_toArray, List.set_cons_zero, List.set_cons_succ]
        refine take_at 6 (some 80) (v := ?_) rfl rfl (by kernel_rfl) (by kernel_rfl) (by kernel_rfl) (fun _ _ _ h => h) ⟨by rfl, ?_⟩ hS ?_
        rotate_left
        · intro wq hSw; go_simp; try rfl
        simp only [Act.put, List.setIfInBounds_toArray, List.set_cons_zero, List.set_cons_succ]
        refine take_at 7 (some 81) (v := ?_) rfl rfl (by kernel_rfl) (by kernel_rfl) (by kernel_rfl) (fun _ _ _ h => h) ⟨by rfl, ?_⟩ hS ?_
        rotate_left
        · intro wq hSw; go_simp; try rfl
        simp only [Act.put, List.setIfInBounds_toArray, List.set_cons_zero, List.set_cons_succ]
        refine wpAnyH_ready (rs := [8]) (by kernel_rfl) (by simp) ?_
        refine AllReadyH.cons rfl (fun K hK => ?_) AllReadyH.nil
        have hq := Cells.new we #[.int .i64 0, .int .i64 0] 43
        go_simp
        (try go_wp2_with fail)
        refine hK.out _ _ trivial (fun hS => ?_)
        clear hK K
        (try simp only [Act.put, List.setIfInBounds_toArray, List.set_cons_zero, List.set_cons_succ])
        obtain ⟨w11, hw11⟩ : ∃ z : World, z = we.alloc (.cells #[.int .i64 0, .int .i64 0] 43) := ⟨_, rfl⟩
        obtain ⟨X9, hX9⟩ : ∃ z, z = we.heap.size := ⟨_, rfl⟩
        have RX := hide (show RBox w11 X9 43 #[.int .i64 0, .int .i64 0] by rw [hw11, hX9]; exact RBox.new _ _ _)
        have B11 := hide (show Below we.heap.size we w11 by rw [hw11]; exact alloc_below _ _)
        have EX9 := hide hX9
        have HX9 := hide (show w.heap.size ≤ X9 ∧ X9 < w11.heap.size ∧ X0 < X9 by rw [hX9, hw11]; refine ⟨A10.out.up, by simp, A10.out.dd.lt⟩)
        rw [← hw11, ← hX9]
        clear hw11 hX9 hq
        obtain ⟨z0, g0⟩ := RX.out.cells.get 0 _ rfl
        obtain ⟨z1, g1⟩ := RX.out.cells.get 1 _ rfl
        refine wpAnyH_ready (rs := [9]) (by kernel_rfl) (by simp) ?_
        refine AllReadyH.cons rfl (fun K hK => ?_) AllReadyH.nil
        go_simp
        (try go_wp2_with fail)
        refine hK.out _ _ trivial (fun hS => ?_)
        clear hK K
        (try simp only [Act.put, List.setIfInBounds_toArray, List.set_cons_zero, List.set_cons_succ])
        refine wpAnyH_done (by kernel_rfl) ?_ _
        clear z0 g0 z1 g1 hS t1 t2 T1 T2 w2' w2'' w3' w3'' w4' w4''
        go_upto_region 15 with fail
        refine named (P := Code.wp _ _ _ _) ?_
        intro w12 hw12
        have RX12 := hide (show RBox w12 X9 43 #[.int .i64 (2 * (x1 : Int)), .int .i64 (x2 : Int)] by rw [hw12]; exact RBox.setCell (RBox.setCell RX.out 0 _) 1 _)
        have B12 := hide (show Below we.heap.size we w12 by
          rw [hw12]
          exact bkeep (bkeep B11.out ((Keep.refl (fun z => z = X9) _).setCell (g := X9) (j := 0) (fun _ => rfl) _) (Nat.le_refl _) (fun j hj => by have := EX9.out; omega)) ((Keep.refl (fun z => z = X9) _).setCell (g := X9) (j := 1) (fun _ => rfl) _) (Nat.le_refl _) (fun j hj => by have := EX9.out; omega))
        have A12 := hide (A10.out.below B12.out (by have := A10.out.up; omega))
        have H9 := hide (show w.heap.size ≤ X9 ∧ X9 < w12.heap.size ∧ X0 < X9 from ⟨HX9.out.1, RX12.out.lt, HX9.out.2.2⟩)
        clear hw12 B12 B11 EX9 A10 RX HX9
        have u1 := ((RBox.cells RX12.out).get 1 (.int .i64 (x2 : Int)) rfl).1
        have GRW := hide (show Grew s s1 1 1 1 from ⟨by rw [hR1]; omega, by rw [hP1]; omega, by have := NI.out; omega, LN.out⟩)
        by_cases h31 : 31 ≤ x2
        · have k1 : decide ((x2 : Int) ≥ 31) = true := (decT h31).1
          have k2 : decide ((31 : Int) ≤ (x2 : Int)) = true := (decT h31).2
          go_wp2_with fail
          refine bodyPost_ret (results_none rfl _ _ _) rfl ?_
          exact ⟨rfl, ⟨s1, A12.out.st, GRW.out, hV1⟩, A12.out.bw⟩
        · have k1 : decide ((x2 : Int) ≥ 31) = false := (decF h31).1
          have k2 : decide ((31 : Int) ≤ (x2 : Int)) = false := (decF h31).2
          have d3 := (A12.out.dd.cells.get 3 (.int .i64 dd) (by rw [HA0.out]; rfl)).1
          obtain ⟨vv, hvv⟩ : ∃ z, z = Int.tmod dd 1000 := ⟨_, rfl⟩
          have bv1 := Int.lt_tmod_of_pos dd (show (0 : Int) < 1000 by decide)
          have bv2 := Int.tmod_lt_of_pos dd (show (0 : Int) < 1000 by decide)
          rw [← hvv] at bv1 bv2
          have TV := hide hvv.symm
          clear hvv
          have wv := (wrT bv1 bv2).1
          have wv2 := (wrT bv1 bv2).2
          have wn := (wrN hnL1).1
          have wn2 := (wrN hnL1).2
          obtain ⟨cA, hcA⟩ : ∃ z : Array Value, z = #[.int .i64 ((nL : Int) + 1), .int .i64 (1 + (j : Int)), .int .i64 (-1099511627776), .int .i64 1099511627776, .int .i64 vv] := ⟨_, rfl⟩
          have tv := TV.out
          go_upto_region 18 with fail
          clear u1 k1 k2
          refine named (P := Code.wp _ _ _ _) ?_
          intro w13 hw13
          have RB13 := hide (show RBox w13 w12.heap.size 47 #[.int .i64 ((nL : Int) + 1), .int .i64 (1 + (j : Int)), .int .i64 (-1099511627776), .int .i64 1099511627776, .int .i64 vv] by rw [hw13]; exact RBox.new _ _ _)
          have B13 := hide (show Below w12.heap.size w12 w13 by rw [hw13]; exact alloc_below _ _)
          clear hw13
          obtain ⟨X11, hX11⟩ : ∃ z, z = w12.heap.size := ⟨_, rfl⟩
          have A13 := hide (A12.out.below B13.out (by have := A12.out.up; omega))
          have RX13 := hide (RBox.below RX12.out B13.out)
          rw [← hX11] at RB13 ⊢
          have HX11 := hide hX11
          clear hX11 B13 RX12 A12 wv wv2 wn wn2 tv d3 hcA HX11
          obtain ⟨nG, hnG⟩ : ∃ z, z = s1.G.length := ⟨_, rfl⟩
          obtain ⟨gG, cG, eG, -⟩ := A13.out.st.slotAt hn
          rw [← hnG] at eG
          have hnn : (n : Int) < (nG : Int) := by omega
          have NG := hide hnG
          have EG := hide eG
          have gg := A13.out.st.g
          rw [eG, ← hnG] at gg
          have S13 := hide (show S18 w13 B sb X11 X9 #[.int .i64 ((nL : Int) + 1), .int .i64 (1 + (j : Int)), .int .i64 (-1099511627776), .int .i64 1099511627776, .int .i64 vv] #[.int .i64 (2 * (x1 : Int)), .int .i64 (x2 : Int)] gG nG cG s1.G from ⟨RB13.out, RX13.out, ⟨_, A13.out.st.box, by show some s1.vG = _; rw [eG]⟩, gg⟩)
          have LTN := hide hn
          clear gg hnG eG RB13 RX13
          obtain ⟨g0, hg0⟩ : ∃ z, z = s1.G[n].1 := ⟨_, rfl⟩
          obtain ⟨g1, hg1⟩ : ∃ z, z = s1.G[n].2 := ⟨_, rfl⟩
          have SR := hide (show ∀ wq, S18 wq B sb X11 X9 #[.int .i64 ((nL : Int) + 1), .int .i64 (1 + (j : Int)), .int .i64 (-1099511627776), .int .i64 1099511627776, .int .i64 vv] #[.int .i64 (2 * (x1 : Int)), .int .i64 (x2 : Int)] gG nG cG s1.G → wq.cell? ⟨gG, n * 2, none⟩ = some (.int .i64 g0) ∧ wq.cell? ⟨gG, n * 2 + 1, none⟩ = some (.int .i64 g1) from fun wq q => by rw [hg0, hg1]; exact slot_row q.g LTN.out)
          clear hg0 hg1
          obtain ⟨pl, hpl⟩ : ∃ z : PL, z = ⟨(nL : Int) + 1, 1 + (j : Int), -1099511627776, 1099511627776, vv, 2 * (x1 : Int), (x2 : Int), g0, g1⟩ := ⟨_, rfl⟩
          have PLA := hide (show plA pl = #[.int .i64 ((nL : Int) + 1), .int .i64 (1 + (j : Int)), .int .i64 (-1099511627776), .int .i64 1099511627776, .int .i64 vv, .int .i64 (2 * (x1 : Int)), .int .i64 (x2 : Int), .int .i64 g0, .int .i64 g1] by rw [hpl])
          have PID := hide (show I64 pl.id by rw [hpl]; show I64 ((nL : Int) + 1); exact i64N hnL1)
          clear hpl
          refine wp_region_held_drew (S := fun wq => S18 wq B sb X11 X9 #[.int .i64 ((nL : Int) + 1), .int .i64 (1 + (j : Int)), .int .i64 (-1099511627776), .int .i64 1099511627776, .int .i64 vv] #[.int .i64 (2 * (x1 : Int)), .int .i64 (x2 : Int)] gG nG cG s1.G) (by kernel_rfl) (S13.out.below (Below.refl _ _).drew) (fun hS => ?_)
          have A14 := hide (A13.out.below (Below.refl _ _).drew (by have := A13.out.up; omega))
          clear A13 S13
          generalize w13.drew = we at *
          refine take_at 0 (some 94) (v := ?_) rfl rfl (by kernel_rfl) (by kernel_rfl) (by kernel_rfl) (fun _ _ _ h => h) ⟨by rfl, ?_⟩ hS ?_
          rotate_left
          · intro wq hSw; go_simp; try rfl
          simp only [Act.put, List.setIfInBounds_toArray, List.set_cons_zero, List.set_cons_succ]
          refine take_at 1 (some 95) (v := ?_) rfl rfl (by kernel_rfl) (by kernel_rfl) (by kernel_rfl) (fun _ _ _ h => h) ⟨by rfl, ?_⟩ hS ?_
          rotate_left
          · intro wq hSw; go_simp; try rfl
          simp only [Act.put, List.setIfInBounds_toArray, List.set_cons_zero, List.set_cons_succ]
          refine take_at 2 (some 96) (v := ?_) rfl rfl (by kernel_rfl) (by kernel_rfl) (by kernel_rfl) (fun _ _ _ h => h) ⟨by rfl, ?_⟩ hS ?_
          rotate_left
          · intro wq hSw; go_simp; try rfl
          simp only [Act.put, List.setIfInBounds_toArray, List.set_cons_zero, List.set_cons_succ]
          refine take_at 3 (some 97) (v := ?_) rfl rfl (by kernel_rfl) (by kernel_rfl) (by kernel_rfl) (fun _ _ _ h => h) ⟨by rfl, ?_⟩ hS ?_
          rotate_left
          · intro wq hSw; go_simp; try rfl
          simp only [Act.put, List.setIfInBounds_toArray, List.set_cons_zero, List.set_cons_succ]
          refine take_at 5 (some 99) (v := .agg #[.int .i64 ((nL : Int) + 1), .int .i64 (1 + (j : Int)), .int .i64 (-1099511627776), .int .i64 1099511627776, .int .i64 vv]) rfl rfl (by kernel_rfl) (by kernel_rfl) (by kernel_rfl) (fun _ _ _ h => h) ⟨by rfl, fun wq hSw => exec_loadG rfl Tryz.underlying47 rfl size47 rfl (fun j v hv => by rw [Nat.zero_add]; exact ((RBox.cells hSw.c).get j v hv).1)⟩ hS ?_
          (try simp only [Act.put, List.setIfInBounds_toArray, List.set_cons_zero, List.set_cons_succ])
          refine take_at 6 (some 100) (v := .agg #[.int .i64 (2 * (x1 : Int)), .int .i64 (x2 : Int)]) rfl rfl (by kernel_rfl) (by kernel_rfl) (by kernel_rfl) (fun _ _ _ h => h) ⟨by rfl, fun wq hSw => exec_loadG rfl Tryz.underlying43 rfl size43 rfl (fun j v hv => by rw [Nat.zero_add]; exact ((RBox.cells hSw.p).get j v hv).1)⟩ hS ?_
          (try simp only [Act.put, List.setIfInBounds_toArray, List.set_cons_zero, List.set_cons_succ])
          refine take_at 7 (some 101) (v := ?_) rfl rfl (by kernel_rfl) (by kernel_rfl) (by kernel_rfl) (fun _ _ _ h => h) ⟨by rfl, ?_⟩ hS ?_
          rotate_left
          · intro wq hSw; go_simp; try rfl
          simp only [Act.put, List.setIfInBounds_toArray, List.set_cons_zero, List.set_cons_succ]
          refine take_at 8 (some 102) (v := ?_) rfl rfl (by kernel_rfl) (by kernel_rfl) (by kernel_rfl) (fun _ _ _ h => h) ⟨by rfl, ?_⟩ hS ?_
          rotate_left
          · intro wq hSw; go_simp; try rfl
          simp only [Act.put, List.setIfInBounds_toArray, List.set_cons_zero, List.set_cons_succ]
          refine take_at 9 (some 103) (v := ?_) rfl rfl (by kernel_rfl) (by kernel_rfl) (by kernel_rfl) (fun _ _ _ h => h) ⟨by rfl, ?_⟩ hS ?_
          rotate_left
          · intro wq hSw; go_simp; try rfl
          simp only [Act.put, List.setIfInBounds_toArray, List.set_cons_zero, List.set_cons_succ]
          refine take_at 10 (some 104) (v := ?_) rfl rfl (by kernel_rfl) (by kernel_rfl) (by kernel_rfl) (fun _ _ _ h => h) ⟨by rfl, ?_⟩ hS ?_
          rotate_left
          · intro wq hSw; have s3 := hSw.q3; go_simp; try rfl
          simp only [Act.put, List.setIfInBounds_toArray, List.set_cons_zero, List.set_cons_succ]
          refine take_at 11 (some 105) (v := ?_) rfl rfl (by kernel_rfl) (by kernel_rfl) (by kernel_rfl) (fun _ _ _ h => h) ⟨by rfl, ?_⟩ hS ?_
          rotate_left
          · intro wq hSw; go_simp; try rfl
          simp only [Act.put, List.setIfInBounds_toArray, List.set_cons_zero, List.set_cons_succ]
          refine take_at 12 (some 106) (v := ?_) rfl rfl (by kernel_rfl) (by kernel_rfl) (by kernel_rfl) (fun _ _ _ h => h) ⟨by rfl, ?_⟩ hS ?_
          rotate_left
          · intro wq hSw; go_simp; try rfl
          simp only [Act.put, List.setIfInBounds_toArray, List.set_cons_zero, List.set_cons_succ]
          refine take_at 13 (some 107) (v := ?_) rfl rfl (by kernel_rfl) (by kernel_rfl) (by kernel_rfl) (fun _ _ _ h => h) ⟨by rfl, ?_⟩ hS ?_
          rotate_left
          · intro wq hSw; obtain ⟨s4, s5⟩ := SR.out wq hSw; go_simp; try rfl
          simp only [Act.put, List.setIfInBounds_toArray, List.set_cons_zero, List.set_cons_succ]
          refine take_at 14 (some 108) (v := .agg (plA pl)) rfl rfl (by kernel_rfl) (by kernel_rfl) (by kernel_rfl) (fun _ _ _ h => h) ⟨by rfl, fun wq hSw => (exec_build171 rfl rfl rfl rfl).trans (by rw [PLA.out])⟩ hS ?_
          (try simp only [Act.put, List.setIfInBounds_toArray, List.set_cons_zero, List.set_cons_succ])
          refine wpAnyH_ready (rs := [4, 15]) (by kernel_rfl) (by simp) ?_
          refine AllReadyH.cons rfl (fun K hK => ?_) (AllReadyH.cons rfl (fun K hK => ?_) AllReadyH.nil)
          · have q2 := ((RBox.cells A14.out.st.box).get 2 _ rfl).1
            rw [EL.out] at q2
            go_simp
            (try go_wp2_with fail)
            refine hK.out _ _ hS (fun hS => ?_)
            clear hK K
            (try simp only [Act.put, List.setIfInBounds_toArray, List.set_cons_zero, List.set_cons_succ])
            clear q2
            refine wpAnyH_ready (rs := [15]) (by kernel_rfl) (by simp) ?_
            refine AllReadyH.cons rfl (fun K hK => ?_) AllReadyH.nil
            refine wp_b69 (x := pl) rfl rfl ?_
            refine hK.out _ _ (hS.below (alloc_below _ _)) (fun hS => ?_)
            clear hK K
            (try simp only [Act.put, List.setIfInBounds_toArray, List.set_cons_zero, List.set_cons_succ])
            obtain ⟨w15, hw15⟩ : ∃ z : World, z = we.alloc (.cells (plA pl) 171) := ⟨_, rfl⟩
            obtain ⟨Y, hY⟩ : ∃ z, z = we.heap.size := ⟨_, rfl⟩
            have LZ := hide (show Lies w15 (some ⟨Y, 0, none⟩) (rowsC plC [pl]) by rw [hw15, hY]; exact lies_cells2 we (plA pl) 171)
            have A15 := hide (show At4 w w15 B sb X0 A0 s1 by rw [hw15]; exact A14.out.below (alloc_below _ _) (by have := A14.out.up; omega))
            rw [← hw15] at hS
            rw [← hw15, ← hY]
            clear hw15 hY A14
            have g3 := A15.out.st.l
            rw [EL.out, ← NL.out] at g3
            obtain ⟨v', x3, r3, g4, q2, -⟩ := run_pushW Tryz.underlying69 info171 rfl (by decide) 69 w15 B _ nL _ g3 ⟨Y, 0, none⟩ 1 1 (rowsC plC [pl]) rfl LZ.out (by intro u hu; simp only [rowsC, List.flatMap_cons, List.flatMap_nil, List.append_nil, plC, List.mem_cons, List.not_mem_nil, or_false] at hu; rcases hu with rfl | rfl | rfl | rfl | rfl | rfl | rfl | rfl | rfl <;> rfl) (by omega) (by decide) (by have := A15.out.up; omega)
            obtain ⟨a', c', rfl, -⟩ := GRow.lies g4
            have TY := hide (ofty_row g3)
            have K4 := hide (grown_keep q2)
            have G4 := hide g4
            have R3 := hide r3
            clear g3 g4 q2 r3 LZ
            refine wpAnyH_ready (rs := [16]) (by kernel_rfl) (by simp) ?_
            refine AllReadyH.cons rfl (fun K hK => ?_) AllReadyH.nil
            refine wp_run 110 (.tmp 98) (.tmp 109) rfl rfl rfl rfl rfl R3.out ?_
            refine hK.out _ _ (hS.keepT K4.out TY.out (by decide) (by decide) (by decide)) (fun hS => ?_)
            clear hK K
            (try simp only [Act.put, List.setIfInBounds_toArray, List.set_cons_zero, List.set_cons_succ])
            have g5 : GRow x3 B 171 9 (.slice a' (nL + 1) c') (s1.P ++ [pl]).length (rowsC plC (s1.P ++ [pl])) := by rw [rowsC_app, List.length_append, ← NL.out]; exact G4.out
            have k4 := K4.out
            rw [← EL.out] at k4
            have pok : ∀ q ∈ s1.P ++ [pl], I64 q.id := by
              intro q hq
              rcases List.mem_append.1 hq with z | z
              · exact A15.out.st.pok q z
              · rw [List.mem_singleton] at z; subst z; exact PID.out
            have bx := RBox.keepT A15.out.st.box k4 (ofty_row A15.out.st.l) (by decide)
            have A16 := hide (show At4 w (x3.setCell ⟨sb, 2, none⟩ (.slice a' (nL + 1) c')) B sb X0 A0 { s1 with vL := .slice a' (nL + 1) c', P := s1.P ++ [pl] } from ⟨A15.out.st.setP g5 k4 pok, box_two A15.out.dd k4 (ofty_row A15.out.st.l) (by decide) bx, below_two A15.out.bw k4 (fun z hz => (World.ownsRow.lt A15.out.st.l z hz).1) A15.out.st.hb hB, Nat.le_trans A15.out.up (Nat.le_trans k4.size (by simp))⟩)
            obtain ⟨y1, f1⟩ := (RBox.cells bx).get 2 _ rfl
            clear g5 pok k4 bx A15 R3 K4 G4 TY
            refine take_at 17 (some 111) (v := ?_) rfl rfl (by kernel_rfl) (by kernel_rfl) (by kernel_rfl) (fun _ _ _ h => h) ⟨by rfl, ?_⟩ hS ?_
            rotate_left
            · intro wq hSw; go_simp; try rfl
            simp only [Act.put, List.setIfInBounds_toArray, List.set_cons_zero, List.set_cons_succ]
            refine take_at 18 (some 112) (v := ?_) rfl rfl (by kernel_rfl) (by kernel_rfl) (by kernel_rfl) (fun _ _ _ h => h) ⟨by rfl, ?_⟩ hS ?_
            rotate_left
            · intro wq hSw; go_simp; try rfl
            simp only [Act.put, List.setIfInBounds_toArray, List.set_cons_zero, List.set_cons_succ]
            refine wpAnyH_ready (rs := [19]) (by kernel_rfl) (by simp) ?_
            refine AllReadyH.cons rfl (fun K hK => ?_) AllReadyH.nil
            go_simp
            (try go_wp2_with fail)
            refine hK.out _ _ (hS.set (by decide)) (fun hS => ?_)
            clear hK K
            (try simp only [Act.put, List.setIfInBounds_toArray, List.set_cons_zero, List.set_cons_succ])
            have S16 := hide hS
            clear hS y1 f1
            refine wpAnyH_done (by kernel_rfl) ?_ _
            obtain ⟨w16, hw16⟩ : ∃ z, z = x3.setCell ⟨sb, 2, none⟩ (.slice a' (nL + 1) c') := ⟨_, rfl⟩
            rw [← hw16] at A16 S16 ⊢
            clear hw16
            have q7 := ((RBox.cells A16.out.st.box).get 7 _ rfl).1
            simp only at q7
            obtain ⟨nS, hnS⟩ : ∃ z, z = s1.S.length := ⟨_, rfl⟩
            obtain ⟨aS, cS, eS, -⟩ := GRow.lies A16.out.st.ss
            simp only at eS
            rw [← hnS] at eS
            rw [eS] at q7
            have NS := hide hnS
            have ES := hide eS
            have A17 := hide (A16.out.below (alloc_below w16 (.cells #[.int .i64 vv] 2)) (by have := A16.out.up; omega))
            have S17 := hide (S16.out.below (alloc_below w16 (.cells #[.int .i64 vv] 2)))
            obtain ⟨w17, hw17⟩ : ∃ z, z = w16.alloc (.cells #[.int .i64 vv] 2) := ⟨_, rfl⟩
            have LZ := hide (show Lies w17 (some ⟨w16.heap.size, 0, none⟩) [.int .i64 vv] by rw [hw17]; exact lies_cells2 w16 #[.int .i64 vv] 2)
            rw [← hw17] at A17 S17
            have g3 := A17.out.st.ss
            simp only at g3
            rw [ES.out, ← NS.out] at g3
            have HB7 := hide (show B ≤ w17.heap.size by have := A17.out.up; omega)
            have hnS1 : nS ≤ 1000 := by have := LN.out.ls; have := NS.out; have := NL.out; omega
            have G3 := hide g3
            clear g3 eS hnS
            go_upto_region 20 with (first
              | (at_builtin; rw [← hw17]; refine wpList_appW Tryz.underlying72 info2z rfl (by decide) (by decide) rfl (.tmp 117) (.tmp 119) rfl B (.slice aS nS cS) nS _ rfl G3.out _ 1 1 _ rfl rfl LZ.out (by intro u hu; rw [List.mem_singleton] at hu; subst hu; rfl) nofun (by omega) HB7.out ?_; intro v6 w18 p1 p2 p3; obtain ⟨a6, c6, e6, -⟩ := GRow.lies p1; subst e6; have P1 := hide p1; have K6 := hide (grown_keep p2); have P3 := hide p3; clear p1 p2 p3 q7; have bx6 := RBox.keepT A17.out.st.box K6.out (ofty_row G3.out) (by decide); obtain ⟨y7, f7⟩ := (RBox.cells bx6).get 7 _ rfl; have BX6 := hide bx6; clear bx6)
              | fail)
            have gS : GRow w18 B 2 1 (.slice a6 (nS + 1) c6) (s1.S ++ [vv]).length (intsV (s1.S ++ [vv])) := by
              rw [List.length_append, ← NS.out]
              unfold intsV
              rw [List.map_append]
              exact P1.out
            have kS := K6.out
            rw [← ES.out] at kS
            have A19 := hide (show At4 w (w18.setCell ⟨sb, 7, none⟩ (.slice a6 (nS + 1) c6)) B sb X0 A0 { s1 with vL := .slice a' (nL + 1) c', P := s1.P ++ [pl], vS := .slice a6 (nS + 1) c6, S := s1.S ++ [vv] } from
              ⟨A17.out.st.setS gS kS (by show _ = s1.vS.ownBlock ∨ _; rw [ES.out]; exact P3.out), box_two A17.out.dd K6.out (ofty_row G3.out) (by decide) BX6.out, below_two A17.out.bw K6.out (fun z hz => (World.ownsRow.lt G3.out z hz).1) A17.out.st.hb hB, Nat.le_trans A17.out.up (Nat.le_trans K6.out.size (by simp))⟩)
            have S19 := hide ((S17.out.keepT K6.out (ofty_row G3.out) (by decide) (by decide) (by decide)).set (j := 7) (v := .slice a6 (nS + 1) c6) (by decide))
            clear y7 f7 gS kS P1 K6 P3 BX6 A17 S17 G3 LZ hw17 HB7 A16 S16
            obtain ⟨w19, hw19⟩ : ∃ z, z = w18.setCell ⟨sb, 7, none⟩ (.slice a6 (nS + 1) c6) := ⟨_, rfl⟩
            rw [← hw19] at A19 S19 ⊢
            clear hw19
            refine wp_region_held_drew (S := fun wq => S18 wq B sb X11 X9 #[.int .i64 ((nL : Int) + 1), .int .i64 (1 + (j : Int)), .int .i64 (-1099511627776), .int .i64 1099511627776, .int .i64 vv] #[.int .i64 (2 * (x1 : Int)), .int .i64 (x2 : Int)] gG nG cG s1.G) (by kernel_rfl) (S19.out.below (Below.refl _ _).drew) (fun hS => ?_)
            have A20 := hide (A19.out.below (Below.refl _ _).drew (by have := A19.out.up; omega))
            clear A19 S19
            generalize w19.drew = we at *
            refine take_at 0 (some 123) (v := ?_) rfl rfl (by kernel_rfl) (by kernel_rfl) (by kernel_rfl) (fun _ _ _ h => h) ⟨by rfl, ?_⟩ hS ?_
            rotate_left
            · intro wq hSw; go_simp; try rfl
            simp only [Act.put, List.setIfInBounds_toArray, List.set_cons_zero, List.set_cons_succ]
            refine take_at 1 (some 124) (v := .agg #[.int .i64 (2 * (x1 : Int)), .int .i64 (x2 : Int)]) rfl rfl (by kernel_rfl) (by kernel_rfl) (by kernel_rfl) (fun _ _ _ h => h) ⟨by rfl, fun wq hSw => exec_loadG rfl Tryz.underlying43 rfl size43 rfl (fun j v hv => by rw [Nat.zero_add]; exact ((RBox.cells hSw.p).get j v hv).1)⟩ hS ?_
            (try simp only [Act.put, List.setIfInBounds_toArray, List.set_cons_zero, List.set_cons_succ])
            refine take_at 2 (some 125) (v := ?_) rfl rfl (by kernel_rfl) (by kernel_rfl) (by kernel_rfl) (fun _ _ _ h => h) ⟨by rfl, ?_⟩ hS ?_
            rotate_left
            · intro wq hSw; go_simp; try rfl
            simp only [Act.put, List.setIfInBounds_toArray, List.set_cons_zero, List.set_cons_succ]
            refine take_at 3 (some 126) (v := ?_) rfl rfl (by kernel_rfl) (by kernel_rfl) (by kernel_rfl) (fun _ _ _ h => h) ⟨by rfl, ?_⟩ hS ?_
            rotate_left
            · intro wq hSw; go_simp; try rfl
            simp only [Act.put, List.setIfInBounds_toArray, List.set_cons_zero, List.set_cons_succ]
            refine take_at 4 (some 127) (v := ?_) rfl rfl (by kernel_rfl) (by kernel_rfl) (by kernel_rfl) (fun _ _ _ h => h) ⟨by rfl, ?_⟩ hS ?_
            rotate_left
            · intro wq hSw; go_simp; try rfl
            simp only [Act.put, List.setIfInBounds_toArray, List.set_cons_zero, List.set_cons_succ]
            refine take_at 5 (some 128) (v := ?_) rfl rfl (by kernel_rfl) (by kernel_rfl) (by kernel_rfl) (fun _ _ _ h => h) ⟨by rfl, ?_⟩ hS ?_
            rotate_left
            · intro wq hSw; have s3 := hSw.q3; go_simp; try rfl
            simp only [Act.put, List.setIfInBounds_toArray, List.set_cons_zero, List.set_cons_succ]
            refine take_at 6 (some 129) (v := ?_) rfl rfl (by kernel_rfl) (by kernel_rfl) (by kernel_rfl) (fun _ _ _ h => h) ⟨by rfl, ?_⟩ hS ?_
            rotate_left
            · intro wq hSw; go_simp; try rfl
            simp only [Act.put, List.setIfInBounds_toArray, List.set_cons_zero, List.set_cons_succ]
            refine take_at 7 (some 130) (v := ?_) rfl rfl (by kernel_rfl) (by kernel_rfl) (by kernel_rfl) (fun _ _ _ h => h) ⟨by rfl, ?_⟩ hS ?_
            rotate_left
            · intro wq hSw; go_simp; try rfl
            simp only [Act.put, List.setIfInBounds_toArray, List.set_cons_zero, List.set_cons_succ]
            refine take_at 8 (some 131) (v := ?_) rfl rfl (by kernel_rfl) (by kernel_rfl) (by kernel_rfl) (fun _ _ _ h => h) ⟨by rfl, ?_⟩ hS ?_
            rotate_left
            · intro wq hSw; obtain ⟨s4, s5⟩ := SR.out wq hSw; go_simp; try rfl
            simp only [Act.put, List.setIfInBounds_toArray, List.set_cons_zero, List.set_cons_succ]
            refine take_at 9 (some 132) (v := .agg #[.int .i64 ((nL : Int) + 1), .int .i64 (1 + (j : Int)), .int .i64 (-1099511627776), .int .i64 1099511627776, .int .i64 vv]) rfl rfl (by kernel_rfl) (by kernel_rfl) (by kernel_rfl) (fun _ _ _ h => h) ⟨by rfl, fun wq hSw => exec_loadG rfl Tryz.underlying47 rfl size47 rfl (fun j v hv => by rw [Nat.zero_add]; exact ((RBox.cells hSw.c).get j v hv).1)⟩ hS ?_
            (try simp only [Act.put, List.setIfInBounds_toArray, List.set_cons_zero, List.set_cons_succ])
            refine take_at 10 (some 133) (v := ?_) rfl rfl (by kernel_rfl) (by kernel_rfl) (by kernel_rfl) (fun _ _ _ h => h) ⟨by rfl, ?_⟩ hS ?_
            rotate_left
            · intro wq hSw; go_simp; try rfl
            simp only [Act.put, List.setIfInBounds_toArray, List.set_cons_zero, List.set_cons_succ]
            refine wpAnyH_ready (rs := [11]) (by kernel_rfl) (by simp) ?_
            refine AllReadyH.cons rfl (fun K hK => ?_) AllReadyH.nil
            go_simp
            go_wp2_with fail
            refine (writes_any A20.out.st ⟨0, 2, 0, 0, 2 * (x1 : Int), (x2 : Int), g0, g1, 0, (nL : Int) + 1, 1 + (j : Int), -1099511627776, 1099511627776, vv, none, 0, 0, none, 0, 0, 0⟩ ⟨by show I64 0; unfold I64; omega, by show I64 ((nL : Int) + 1); exact i64N hnL1⟩ (by simp only; rw [hR1]; exact hl) (by have := A20.out.up; omega)).mono ?_
            rintro e w21 ⟨z, v', rfl, h3, k3⟩
            have H3 := hide h3
            have hSn := hS.after k3 A20.out.st.r h3 EG.out rfl NG.out
            have B3 := hide (show Below B w w21 from bkeep A20.out.bw k3 hB (fun j hj => by
              rcases hj with q | q
              · rw [q]; exact A20.out.st.hb
              · exact (World.ownsRow.lt A20.out.st.r j q).1))
            clear h3 k3
            go_wp2_with fail
            refine hK.out _ _ hSn (fun hS => ?_)
            clear hK K
            (try simp only [Act.put, List.setIfInBounds_toArray, List.set_cons_zero, List.set_cons_succ])
            clear hS hSn
            refine wpAnyH_done (by kernel_rfl) ?_ _
            go_wp2_with fail
            go_end0
            refine ⟨rfl, ⟨_, H3.out, ⟨by simp only [List.length_append, List.length_singleton]; rw [hR1]; exact Nat.le_refl _, by simp only [List.length_append, List.length_singleton]; rw [hP1]; exact Nat.le_refl _, by have := NI.out; simp only; omega, ⟨LN.out.gi, by simp only [List.length_append, LN.out.ls, List.length_singleton], LN.out.ig⟩⟩, hV1⟩, B3.out⟩
          · refine wp_b69 (x := pl) rfl rfl ?_
            refine hK.out _ _ (hS.below (alloc_below _ _)) (fun hS => ?_)
            clear hK K
            (try simp only [Act.put, List.setIfInBounds_toArray, List.set_cons_zero, List.set_cons_succ])
            obtain ⟨w15, hw15⟩ : ∃ z : World, z = we.alloc (.cells (plA pl) 171) := ⟨_, rfl⟩
            obtain ⟨Y, hY⟩ : ∃ z, z = we.heap.size := ⟨_, rfl⟩
            have LZ := hide (show Lies w15 (some ⟨Y, 0, none⟩) (rowsC plC [pl]) by rw [hw15, hY]; exact lies_cells2 we (plA pl) 171)
            have A15 := hide (show At4 w w15 B sb X0 A0 s1 by rw [hw15]; exact A14.out.below (alloc_below _ _) (by have := A14.out.up; omega))
            rw [← hw15] at hS
            rw [← hw15, ← hY]
            clear hw15 hY A14
            refine wpAnyH_ready (rs := [4]) (by kernel_rfl) (by simp) ?_
            refine AllReadyH.cons rfl (fun K hK => ?_) AllReadyH.nil
            have q2 := ((RBox.cells A15.out.st.box).get 2 _ rfl).1
            rw [EL.out] at q2
            go_simp
            (try go_wp2_with fail)
            refine hK.out _ _ hS (fun hS => ?_)
            clear hK K
            (try simp only [Act.put, List.setIfInBounds_toArray, List.set_cons_zero, List.set_cons_succ])
            clear q2
            have g3 := A15.out.st.l
            rw [EL.out, ← NL.out] at g3
            obtain ⟨v', x3, r3, g4, q2, -⟩ := run_pushW Tryz.underlying69 info171 rfl (by decide) 69 w15 B _ nL _ g3 ⟨Y, 0, none⟩ 1 1 (rowsC plC [pl]) rfl LZ.out (by intro u hu; simp only [rowsC, List.flatMap_cons, List.flatMap_nil, List.append_nil, plC, List.mem_cons, List.not_mem_nil, or_false] at hu; rcases hu with rfl | rfl | rfl | rfl | rfl | rfl | rfl | rfl | rfl <;> rfl) (by omega) (by decide) (by have := A15.out.up; omega)
            obtain ⟨a', c', rfl, -⟩ := GRow.lies g4
            have TY := hide (ofty_row g3)
            have K4 := hide (grown_keep q2)
            have G4 := hide g4
            have R3 := hide r3
            clear g3 g4 q2 r3 LZ
            refine wpAnyH_ready (rs := [16]) (by kernel_rfl) (by simp) ?_
            refine AllReadyH.cons rfl (fun K hK => ?_) AllReadyH.nil
            refine wp_run 110 (.tmp 98) (.tmp 109) rfl rfl rfl rfl rfl R3.out ?_
            refine hK.out _ _ (hS.keepT K4.out TY.out (by decide) (by decide) (by decide)) (fun hS => ?_)
            clear hK K
            (try simp only [Act.put, List.setIfInBounds_toArray, List.set_cons_zero, List.set_cons_succ])
            have g5 : GRow x3 B 171 9 (.slice a' (nL + 1) c') (s1.P ++ [pl]).length (rowsC plC (s1.P ++ [pl])) := by rw [rowsC_app, List.length_append, ← NL.out]; exact G4.out
            have k4 := K4.out
            rw [← EL.out] at k4
            have pok : ∀ q ∈ s1.P ++ [pl], I64 q.id := by
              intro q hq
              rcases List.mem_append.1 hq with z | z
              · exact A15.out.st.pok q z
              · rw [List.mem_singleton] at z; subst z; exact PID.out
            have bx := RBox.keepT A15.out.st.box k4 (ofty_row A15.out.st.l) (by decide)
            have A16 := hide (show At4 w (x3.setCell ⟨sb, 2, none⟩ (.slice a' (nL + 1) c')) B sb X0 A0 { s1 with vL := .slice a' (nL + 1) c', P := s1.P ++ [pl] } from ⟨A15.out.st.setP g5 k4 pok, box_two A15.out.dd k4 (ofty_row A15.out.st.l) (by decide) bx, below_two A15.out.bw k4 (fun z hz => (World.ownsRow.lt A15.out.st.l z hz).1) A15.out.st.hb hB, Nat.le_trans A15.out.up (Nat.le_trans k4.size (by simp))⟩)
            obtain ⟨y1, f1⟩ := (RBox.cells bx).get 2 _ rfl
            clear g5 pok k4 bx A15 R3 K4 G4 TY
            refine take_at 17 (some 111) (v := ?_) rfl rfl (by kernel_rfl) (by kernel_rfl) (by kernel_rfl) (fun _ _ _ h => h) ⟨by rfl, ?_⟩ hS ?_
            rotate_left
            · intro wq hSw; go_simp; try rfl
            simp only [Act.put, List.setIfInBounds_toArray, List.set_cons_zero, List.set_cons_succ]
            refine take_at 18 (some 112) (v := ?_) rfl rfl (by kernel_rfl) (by kernel_rfl) (by kernel_rfl) (fun _ _ _ h => h) ⟨by rfl, ?_⟩ hS ?_
            rotate_left
            · intro wq hSw; go_simp; try rfl
            simp only [Act.put, List.setIfInBounds_toArray, List.set_cons_zero, List.set_cons_succ]
            refine wpAnyH_ready (rs := [19]) (by kernel_rfl) (by simp) ?_
            refine AllReadyH.cons rfl (fun K hK => ?_) AllReadyH.nil
            go_simp
            (try go_wp2_with fail)
            refine hK.out _ _ (hS.set (by decide)) (fun hS => ?_)
            clear hK K
            (try simp only [Act.put, List.setIfInBounds_toArray, List.set_cons_zero, List.set_cons_succ])
            have S16 := hide hS
            clear hS y1 f1
            refine wpAnyH_done (by kernel_rfl) ?_ _
            obtain ⟨w16, hw16⟩ : ∃ z, z = x3.setCell ⟨sb, 2, none⟩ (.slice a' (nL + 1) c') := ⟨_, rfl⟩
            rw [← hw16] at A16 S16 ⊢
            clear hw16
            have q7 := ((RBox.cells A16.out.st.box).get 7 _ rfl).1
            simp only at q7
            obtain ⟨nS, hnS⟩ : ∃ z, z = s1.S.length := ⟨_, rfl⟩
            obtain ⟨aS, cS, eS, -⟩ := GRow.lies A16.out.st.ss
            simp only at eS
            rw [← hnS] at eS
            rw [eS] at q7
            have NS := hide hnS
            have ES := hide eS
            have A17 := hide (A16.out.below (alloc_below w16 (.cells #[.int .i64 vv] 2)) (by have := A16.out.up; omega))
            have S17 := hide (S16.out.below (alloc_below w16 (.cells #[.int .i64 vv] 2)))
            obtain ⟨w17, hw17⟩ : ∃ z, z = w16.alloc (.cells #[.int .i64 vv] 2) := ⟨_, rfl⟩
            have LZ := hide (show Lies w17 (some ⟨w16.heap.size, 0, none⟩) [.int .i64 vv] by rw [hw17]; exact lies_cells2 w16 #[.int .i64 vv] 2)
            rw [← hw17] at A17 S17
            have g3 := A17.out.st.ss
            simp only at g3
            rw [ES.out, ← NS.out] at g3
            have HB7 := hide (show B ≤ w17.heap.size by have := A17.out.up; omega)
            have hnS1 : nS ≤ 1000 := by have := LN.out.ls; have := NS.out; have := NL.out; omega
            have G3 := hide g3
            clear g3 eS hnS
            go_upto_region 20 with (first
              | (at_builtin; rw [← hw17]; refine wpList_appW Tryz.underlying72 info2z rfl (by decide) (by decide) rfl (.tmp 117) (.tmp 119) rfl B (.slice aS nS cS) nS _ rfl G3.out _ 1 1 _ rfl rfl LZ.out (by intro u hu; rw [List.mem_singleton] at hu; subst hu; rfl) nofun (by omega) HB7.out ?_; intro v6 w18 p1 p2 p3; obtain ⟨a6, c6, e6, -⟩ := GRow.lies p1; subst e6; have P1 := hide p1; have K6 := hide (grown_keep p2); have P3 := hide p3; clear p1 p2 p3 q7; have bx6 := RBox.keepT A17.out.st.box K6.out (ofty_row G3.out) (by decide); obtain ⟨y7, f7⟩ := (RBox.cells bx6).get 7 _ rfl; have BX6 := hide bx6; clear bx6)
              | fail)
            have gS : GRow w18 B 2 1 (.slice a6 (nS + 1) c6) (s1.S ++ [vv]).length (intsV (s1.S ++ [vv])) := by
              rw [List.length_append, ← NS.out]
              unfold intsV
              rw [List.map_append]
              exact P1.out
            have kS := K6.out
            rw [← ES.out] at kS
            have A19 := hide (show At4 w (w18.setCell ⟨sb, 7, none⟩ (.slice a6 (nS + 1) c6)) B sb X0 A0 { s1 with vL := .slice a' (nL + 1) c', P := s1.P ++ [pl], vS := .slice a6 (nS + 1) c6, S := s1.S ++ [vv] } from
              ⟨A17.out.st.setS gS kS (by show _ = s1.vS.ownBlock ∨ _; rw [ES.out]; exact P3.out), box_two A17.out.dd K6.out (ofty_row G3.out) (by decide) BX6.out, below_two A17.out.bw K6.out (fun z hz => (World.ownsRow.lt G3.out z hz).1) A17.out.st.hb hB, Nat.le_trans A17.out.up (Nat.le_trans K6.out.size (by simp))⟩)
            have S19 := hide ((S17.out.keepT K6.out (ofty_row G3.out) (by decide) (by decide) (by decide)).set (j := 7) (v := .slice a6 (nS + 1) c6) (by decide))
            clear y7 f7 gS kS P1 K6 P3 BX6 A17 S17 G3 LZ hw17 HB7 A16 S16
            obtain ⟨w19, hw19⟩ : ∃ z, z = w18.setCell ⟨sb, 7, none⟩ (.slice a6 (nS + 1) c6) := ⟨_, rfl⟩
            rw [← hw19] at A19 S19 ⊢
            clear hw19
            refine wp_region_held_drew (S := fun wq => S18 wq B sb X11 X9 #[.int .i64 ((nL : Int) + 1), .int .i64 (1 + (j : Int)), .int .i64 (-1099511627776), .int .i64 1099511627776, .int .i64 vv] #[.int .i64 (2 * (x1 : Int)), .int .i64 (x2 : Int)] gG nG cG s1.G) (by kernel_rfl) (S19.out.below (Below.refl _ _).drew) (fun hS => ?_)
            have A20 := hide (A19.out.below (Below.refl _ _).drew (by have := A19.out.up; omega))
            clear A19 S19
            generalize w19.drew = we at *
            refine take_at 0 (some 123) (v := ?_) rfl rfl (by kernel_rfl) (by kernel_rfl) (by kernel_rfl) (fun _ _ _ h => h) ⟨by rfl, ?_⟩ hS ?_
            rotate_left
            · intro wq hSw; go_simp; try rfl
            simp only [Act.put, List.setIfInBounds_toArray, List.set_cons_zero, List.set_cons_succ]
            refine take_at 1 (some 124) (v := .agg #[.int .i64 (2 * (x1 : Int)), .int .i64 (x2 : Int)]) rfl rfl (by kernel_rfl) (by kernel_rfl) (by kernel_rfl) (fun _ _ _ h => h) ⟨by rfl, fun wq hSw => exec_loadG rfl Tryz.underlying43 rfl size43 rfl (fun j v hv => by rw [Nat.zero_add]; exact ((RBox.cells hSw.p).get j v hv).1)⟩ hS ?_
            (try simp only [Act.put, List.setIfInBounds_toArray, List.set_cons_zero, List.set_cons_succ])
            refine take_at 2 (some 125) (v := ?_) rfl rfl (by kernel_rfl) (by kernel_rfl) (by kernel_rfl) (fun _ _ _ h => h) ⟨by rfl, ?_⟩ hS ?_
            rotate_left
            · intro wq hSw; go_simp; try rfl
            simp only [Act.put, List.setIfInBounds_toArray, List.set_cons_zero, List.set_cons_succ]
            refine take_at 3 (some 126) (v := ?_) rfl rfl (by kernel_rfl) (by kernel_rfl) (by kernel_rfl) (fun _ _ _ h => h) ⟨by rfl, ?_⟩ hS ?_
            rotate_left
            · intro wq hSw; go_simp; try rfl
            simp only [Act.put, List.setIfInBounds_toArray, List.set_cons_zero, List.set_cons_succ]
            refine take_at 4 (some 127) (v := ?_) rfl rfl (by kernel_rfl) (by kernel_rfl) (by kernel_rfl) (fun _ _ _ h => h) ⟨by rfl, ?_⟩ hS ?_
            rotate_left
            · intro wq hSw; go_simp; try rfl
            simp only [Act.put, List.setIfInBounds_toArray, List.set_cons_zero, List.set_cons_succ]
            refine take_at 5 (some 128) (v := ?_) rfl rfl (by kernel_rfl) (by kernel_rfl) (by kernel_rfl) (fun _ _ _ h => h) ⟨by rfl, ?_⟩ hS ?_
            rotate_left
            · intro wq hSw; have s3 := hSw.q3; go_simp; try rfl
            simp only [Act.put, List.setIfInBounds_toArray, List.set_cons_zero, List.set_cons_succ]
            refine take_at 6 (some 129) (v := ?_) rfl rfl (by kernel_rfl) (by kernel_rfl) (by kernel_rfl) (fun _ _ _ h => h) ⟨by rfl, ?_⟩ hS ?_
            rotate_left
            · intro wq hSw; go_simp; try rfl
            simp only [Act.put, List.setIfInBounds_toArray, List.set_cons_zero, List.set_cons_succ]
            refine take_at 7 (some 130) (v := ?_) rfl rfl (by kernel_rfl) (by kernel_rfl) (by kernel_rfl) (fun _ _ _ h => h) ⟨by rfl, ?_⟩ hS ?_
            rotate_left
            · intro wq hSw; go_simp; try rfl
            simp only [Act.put, List.setIfInBounds_toArray, List.set_cons_zero, List.set_cons_succ]
            refine take_at 8 (some 131) (v := ?_) rfl rfl (by kernel_rfl) (by kernel_rfl) (by kernel_rfl) (fun _ _ _ h => h) ⟨by rfl, ?_⟩ hS ?_
            rotate_left
            · intro wq hSw; obtain ⟨s4, s5⟩ := SR.out wq hSw; go_simp; try rfl
            simp only [Act.put, List.setIfInBounds_toArray, List.set_cons_zero, List.set_cons_succ]
            refine take_at 9 (some 132) (v := .agg #[.int .i64 ((nL : Int) + 1), .int .i64 (1 + (j : Int)), .int .i64 (-1099511627776), .int .i64 1099511627776, .int .i64 vv]) rfl rfl (by kernel_rfl) (by kernel_rfl) (by kernel_rfl) (fun _ _ _ h => h) ⟨by rfl, fun wq hSw => exec_loadG rfl Tryz.underlying47 rfl size47 rfl (fun j v hv => by rw [Nat.zero_add]; exact ((RBox.cells hSw.c).get j v hv).1)⟩ hS ?_
            (try simp only [Act.put, List.setIfInBounds_toArray, List.set_cons_zero, List.set_cons_succ])
            refine take_at 10 (some 133) (v := ?_) rfl rfl (by kernel_rfl) (by kernel_rfl) (by kernel_rfl) (fun _ _ _ h => h) ⟨by rfl, ?_⟩ hS ?_
            rotate_left
            · intro wq hSw; go_simp; try rfl
            simp only [Act.put, List.setIfInBounds_toArray, List.set_cons_zero, List.set_cons_succ]
            refine wpAnyH_ready (rs := [11]) (by kernel_rfl) (by simp) ?_
            refine AllReadyH.cons rfl (fun K hK => ?_) AllReadyH.nil
            go_simp
            go_wp2_with fail
            refine (writes_any A20.out.st ⟨0, 2, 0, 0, 2 * (x1 : Int), (x2 : Int), g0, g1, 0, (nL : Int) + 1, 1 + (j : Int), -1099511627776, 1099511627776, vv, none, 0, 0, none, 0, 0, 0⟩ ⟨by show I64 0; unfold I64; omega, by show I64 ((nL : Int) + 1); exact i64N hnL1⟩ (by simp only; rw [hR1]; exact hl) (by have := A20.out.up; omega)).mono ?_
            rintro e w21 ⟨z, v', rfl, h3, k3⟩
            have H3 := hide h3
            have hSn := hS.after k3 A20.out.st.r h3 EG.out rfl NG.out
            have B3 := hide (show Below B w w21 from bkeep A20.out.bw k3 hB (fun j hj => by
              rcases hj with q | q
              · rw [q]; exact A20.out.st.hb
              · exact (World.ownsRow.lt A20.out.st.r j q).1))
            clear h3 k3
            go_wp2_with fail
            refine hK.out _ _ hSn (fun hS => ?_)
            clear hK K
            (try simp only [Act.put, List.setIfInBounds_toArray, List.set_cons_zero, List.set_cons_succ])
            clear hS hSn
            refine wpAnyH_done (by kernel_rfl) ?_ _
            go_wp2_with fail
            go_end0
            refine ⟨rfl, ⟨_, H3.out, ⟨by simp only [List.length_append, List.length_singleton]; rw [hR1]; exact Nat.le_refl _, by simp only [List.length_append, List.length_singleton]; rw [hP1]; exact Nat.le_refl _, by have := NI.out; simp only; omega, ⟨LN.out.gi, by simp only [List.length_append, LN.out.ls, List.length_singleton], LN.out.ig⟩⟩, hV1⟩, B3.out⟩
end Go.Proofs.YtehbpmibllpkhaaGreatDoor
