import Derived.Test.YtehbpmibllpkhaaGreatDoorUdV
import Derived.Test.YtehbpmibllpkhaaGreatDoorUdT4
set_option linter.all false
namespace Go.Proofs.YtehbpmibllpkhaaGreatDoor
open Go.RowKit Go.QK Go.Maps Go.QM Go.QU
set_option maxRecDepth 100000
set_option maxHeartbeats 16000000 in
theorem does_any {w : World} {B sb : Nat} {s : SV} (h : Sty w B sb s) (hL : Len s) (kd da db dd : Int) (ik : I64 kd) (ia : I64 da) (ib : I64 db) (id : I64 dd) (hl : s.R.length ≤ 60) (hB : B ≤ w.heap.size) (hP : s.P.length ≤ 60) (hV : s.V.length ≤ 20) :
    Calls Tryz.prog 36 #[ptr sb, .agg #[.int .i64 kd, .int .i64 da, .int .i64 db, .int .i64 dd]] w fun e w' => SomeB e ∧ (∃ s', Sty w' B sb s' ∧ Bnd s s') ∧ Below B w w' := by
  obtain ⟨w1, hw1⟩ : ∃ z, z = w.alloc (.cells #[.int .i64 kd, .int .i64 da, .int .i64 db, .int .i64 dd] 102) := ⟨_, rfl⟩
  obtain ⟨X0, hX0⟩ : ∃ z, z = w.heap.size := ⟨_, rfl⟩
  have b1 : Below w.heap.size w w1 := by rw [hw1]; exact alloc_below _ _
  have A1 := hide (show At4 w w1 B sb X0 #[.int .i64 kd, .int .i64 da, .int .i64 db, .int .i64 dd] s from ⟨h.below b1, by rw [hw1, hX0]; exact RBox.new _ _ _, b1.mono hB, b1.size⟩)
  have BR := hide (brought52_any kd 10 w1 ik (by decide) (by decide))
  have HL := hide hL
  have hI5 : s.I.length ≤ 5 := few_of 5 _ hL.ig.1 (fun x hx => hL.ig.2 x hx)
  have HB := hide hB
  have d0 := ((RBox.cells A1.out.dd).get 0 _ rfl).1
  obtain ⟨nV, hnV⟩ : ∃ z, z = s.V.length := ⟨_, rfl⟩
  rw [← hnV] at hV
  have NV := hide hnV
  obtain ⟨aV, cV, eV, -⟩ := GRow.lies A1.out.st.v
  rw [← hnV] at eV
  have EV := hide eV
  clear h hL b1 hnV eV
  go_enter Tryz.func36, Tryz.ntmps36
  go_upto_region 1 with fail
  rw [← hw1, ← hX0]
  clear hw1 hX0
  go_wp2_with fail
  refine BR.out.mono ?_
  rintro e w2 ⟨k, rfl, hk, rfl⟩
  clear d0 BR
  by_cases hk2 : k < 2
  · have f1 : decide ((k : Int) < 2) = true := decide_eq_true (by omega)
    have c0 := ((RBox.cells A1.out.dd).get 0 _ rfl).1
    have c1 := ((RBox.cells A1.out.dd).get 1 _ rfl).1
    have c2 := ((RBox.cells A1.out.dd).get 2 _ rfl).1
    have c3 := ((RBox.cells A1.out.dd).get 3 _ rfl).1
    go_wp2_with fail
    refine (makes_any A1.out.st HL.out kd da db dd ia id (by omega) (by have := A1.out.up; omega) (by omega) (by omega)).mono ?_
    rintro e w3 ⟨rfl, ⟨s3, h3, g3, v3⟩, b3⟩
    go_wp2_with fail
    first | go_ret | go_ret2
    exact ⟨⟨⟨_, rfl⟩⟩, ⟨s3, h3, ⟨by have := g3.r; omega, g3.p, by rw [v3]; have := NV.out; omega, g3.len⟩⟩, A1.out.bw.trans b3⟩
  by_cases hk4 : k < 4
  · have f1 : decide ((k : Int) < 2) = false := decide_eq_false (by omega)
    have f2 : decide ((k : Int) < 4) = true := decide_eq_true (by omega)
    have q5 := ((RBox.cells A1.out.st.box).get 5 _ rfl).1
    rw [EV.out] at q5
    by_cases hv : nV < 20
    · have f3 : decide ((nV : Int) < 20) = true := decide_eq_true (by omega)
      have q6 := ((RBox.cells A1.out.st.box).get 6 _ rfl).1
      go_wp2_with fail
      refine (writes_any A1.out.st ⟨0, 1, s.next, 0, 0, 0, 0, 0, 0, 0, 0, 0, 0, 0, none, 0, 0, none, 0, 0, 0⟩ ⟨i64_0, i64_0⟩ (by omega) (by have := A1.out.up; omega)).mono ?_
      rintro e w3 ⟨z, vR', rfl, h3, k3⟩
      obtain ⟨s3, hs3⟩ : ∃ y : SV, y = { s with vR := vR', R := s.R ++ [numd ⟨0, 1, s.next, 0, 0, 0, 0, 0, 0, 0, 0, 0, 0, 0, none, 0, 0, none, 0, 0, 0⟩ z] } := ⟨_, rfl⟩
      rw [← hs3] at h3
      have A3 := hide (A1.out.wrote hB h3 k3)
      have EE := hide (show s3.R.length = s.R.length + 1 ∧ s3.P = s.P ∧ s3.V = s.V ∧ s3.vV = s.vV ∧ s3.S = s.S ∧ s3.vS = s.vS ∧ s3.G = s.G ∧ s3.I = s.I ∧ s3.next = s.next by rw [hs3]; exact ⟨by simp, rfl, rfl, rfl, rfl, rfl, rfl, rfl, rfl⟩)
      clear q5 q6 h3 k3 hs3
      go_upto_region 8 with fail
      refine wp_region_held_drew (S := fun wq => NX wq sb (.int .i64 s.next)) (by kernel_rfl) (NX.below ⟨_, A3.out.st.box, by show some (Value.int .i64 s3.next) = _; rw [EE.out.2.2.2.2.2.2.2.2]⟩ (Below.refl _ _).drew) (fun hS => ?_)
      have A4 := hide (A3.out.below (Below.refl _ _).drew (by have := A3.out.up; omega))
      clear A3
      generalize w3.drew = we at *
      refine take_at 0 (some 36) (v := ?_) rfl rfl (by kernel_rfl) (by kernel_rfl) (by kernel_rfl) (fun _ _ _ h => h) ⟨by rfl, ?_⟩ hS ?_
      rotate_left
      · intro wq hSw; go_simp; try rfl
      simp only [Act.put, List.setIfInBounds_toArray, List.set_cons_zero, List.set_cons_succ]
      refine take_at 1 (some 37) (v := ?_) rfl rfl (by kernel_rfl) (by kernel_rfl) (by kernel_rfl) (fun _ _ _ h => h) ⟨by rfl, ?_⟩ hS ?_
      rotate_left
      · intro wq hSw; go_simp; try rfl
      simp only [Act.put, List.setIfInBounds_toArray, List.set_cons_zero, List.set_cons_succ]
      refine take_at 2 (some 38) (v := ?_) rfl rfl (by kernel_rfl) (by kernel_rfl) (by kernel_rfl) (fun _ _ _ h => h) ⟨by rfl, ?_⟩ hS ?_
      rotate_left
      · intro wq hSw; go_simp; try rfl
      simp only [Act.put, List.setIfInBounds_toArray, List.set_cons_zero, List.set_cons_succ]
      refine take_at 3 (some 39) (v := ?_) rfl rfl (by kernel_rfl) (by kernel_rfl) (by kernel_rfl) (fun _ _ _ h => h) ⟨by rfl, ?_⟩ hS ?_
      rotate_left
      · intro wq hSw; go_simp; try rfl
      simp only [Act.put, List.setIfInBounds_toArray, List.set_cons_zero, List.set_cons_succ]
      refine take_at 5 (some 41) (v := ?_) rfl rfl (by kernel_rfl) (by kernel_rfl) (by kernel_rfl) (fun _ _ _ h => h) ⟨by rfl, ?_⟩ hS ?_
      rotate_left
      · intro wq hSw; go_simp; try rfl
      simp only [Act.put, List.setIfInBounds_toArray, List.set_cons_zero, List.set_cons_succ]
      refine take_at 6 (some 42) (v := ?_) rfl rfl (by kernel_rfl) (by kernel_rfl) (by kernel_rfl) (fun _ _ _ h => h) ⟨by rfl, ?_⟩ hS ?_
      rotate_left
      · intro wq hSw; go_simp; try rfl
      simp only [Act.put, List.setIfInBounds_toArray, List.set_cons_zero, List.set_cons_succ]
      refine take_at 7 (some 43) (v := ?_) rfl rfl (by kernel_rfl) (by kernel_rfl) (by kernel_rfl) (fun _ _ _ h => h) ⟨by rfl, ?_⟩ hS ?_
      rotate_left
      · intro wq hSw; go_simp; try rfl
      simp only [Act.put, List.setIfInBounds_toArray, List.set_cons_zero, List.set_cons_succ]
      refine take_at 8 (some 44) (v := ?_) rfl rfl (by kernel_rfl) (by kernel_rfl) (by kernel_rfl) (fun _ _ _ h => h) ⟨by rfl, ?_⟩ hS ?_
      rotate_left
      · intro wq hSw; have s6 := hSw.q6; go_simp; try rfl
      simp only [Act.put, List.setIfInBounds_toArray, List.set_cons_zero, List.set_cons_succ]
      refine take_at 9 (some 45) (v := ?_) rfl rfl (by kernel_rfl) (by kernel_rfl) (by kernel_rfl) (fun _ _ _ h => h) ⟨by rfl, ?_⟩ hS ?_
      rotate_left
      · intro wq hSw; go_simp; try rfl
      simp only [Act.put, List.setIfInBounds_toArray, List.set_cons_zero, List.set_cons_succ]
      refine wpAnyH_ready (rs := [4, 10, 11]) (by kernel_rfl) (by simp) ?_
      refine AllReadyH.cons rfl (fun K hK => ?_) (AllReadyH.cons rfl (fun K hK => ?_) (AllReadyH.cons rfl (fun K hK => ?_) AllReadyH.nil))
      · have q5 := ((RBox.cells A4.out.st.box).get 5 _ rfl).1
        rw [EE.out.2.2.2.1, EV.out] at q5
        go_simp
        (try go_wp2_with fail)
        refine hK.out _ _ hS (fun hS => ?_)
        clear hK K
        (try simp only [Act.put, List.setIfInBounds_toArray, List.set_cons_zero, List.set_cons_succ])
        clear q5
        refine wpAnyH_ready (rs := [10, 11]) (by kernel_rfl) (by simp) ?_
        refine AllReadyH.cons rfl (fun K hK => ?_) (AllReadyH.cons rfl (fun K hK => ?_) AllReadyH.nil)
        · obtain ⟨u1, mk, gm, bm⟩ := make72 we
          obtain ⟨xn, hx⟩ : ∃ y, y = we.heap.size := ⟨_, rfl⟩
          rw [← hx] at mk
          have HX2 := hide hx
          clear hx
          go_simp
          (try go_wp2_with fail)
          refine hK.out _ _ (hS.below bm) (fun hS => ?_)
          clear hK K
          (try simp only [Act.put, List.setIfInBounds_toArray, List.set_cons_zero, List.set_cons_succ])
          have GN := hide (show GRow u1 B 2 1 (.slice (some ⟨xn, 0, none⟩) 200 200) 200 (intsV (List.replicate 200 0)) from GRow.mono (by rw [HX2.out]; exact gm) (by have := A4.out.up; have := HB.out; omega))
          have A11 := hide (A4.out.below bm (by have := A4.out.up; have := HB.out; omega))
          have XS := hide (show ∀ g, s.vS.ownBlock = some g → xn ≠ g from fun g hg e => by have := (World.ownsRow.lt A4.out.st.ss g (by rw [EE.out.2.2.2.2.2.1]; exact hg)).2; have := HX2.out; omega)
          clear A4 mk gm bm HX2
          refine wpAnyH_ready (rs := [11]) (by kernel_rfl) (by simp) ?_
          refine AllReadyH.cons rfl (fun K hK => ?_) AllReadyH.nil
          obtain ⟨u2, mk, gm, bm⟩ := make131 u1
          obtain ⟨xh, hx⟩ : ∃ y, y = u1.heap.size := ⟨_, rfl⟩
          rw [← hx] at mk
          have HX2 := hide hx
          clear hx
          go_simp
          (try go_wp2_with fail)
          refine hK.out _ _ (hS.below bm) (fun hS => ?_)
          clear hK K
          (try simp only [Act.put, List.setIfInBounds_toArray, List.set_cons_zero, List.set_cons_succ])
          have GH := hide (show GRow u2 B 4 1 (.slice (some ⟨xh, 0, none⟩) 200 200) 200 (boolsV (List.replicate 200 false)) from GRow.mono (by rw [HX2.out]; exact gm) (by have := A11.out.up; have := HB.out; omega))
          have A12 := hide (A11.out.below bm (by have := A11.out.up; have := HB.out; omega))
          have GN2 := hide (GN.out.below bm)
          clear GN
          have GN := hide GN2.out
          clear GN2
          clear A11 mk gm bm HX2
          refine take_at 12 (some 48) (v := ?_) rfl rfl (by kernel_rfl) (by kernel_rfl) (by kernel_rfl) (fun _ _ _ h => h) ⟨by rfl, ?_⟩ hS ?_
          rotate_left
          · intro wq hSw; go_simp; try rfl
          simp only [Act.put, List.setIfInBounds_toArray, List.set_cons_zero, List.set_cons_succ]
          refine wpAnyH_ready (rs := [13]) (by kernel_rfl) (by simp) ?_
          refine AllReadyH.cons rfl (fun K hK => ?_) AllReadyH.nil
          refine wp_b71 (x := ⟨s.next, z, false, .slice (some ⟨xn, 0, none⟩) 200 200, .slice (some ⟨xh, 0, none⟩) 200 200⟩) rfl rfl ?_
          refine hK.out _ _ (hS.below (alloc_below _ _)) (fun hS => ?_)
          clear hK K
          (try simp only [Act.put, List.setIfInBounds_toArray, List.set_cons_zero, List.set_cons_succ])
          obtain ⟨u3, hu⟩ : ∃ y : World, y = u2.alloc (.cells (opA ⟨s.next, z, false, .slice (some ⟨xn, 0, none⟩) 200 200, .slice (some ⟨xh, 0, none⟩) 200 200⟩) 133) := ⟨_, rfl⟩
          obtain ⟨Y, hY⟩ : ∃ y, y = u2.heap.size := ⟨_, rfl⟩
          have bm : Below u2.heap.size u2 u3 := by rw [hu]; exact alloc_below _ _
          have LZ := hide (show Lies u3 (some ⟨Y, 0, none⟩) (rowsC opC [⟨s.next, z, false, .slice (some ⟨xn, 0, none⟩) 200 200, .slice (some ⟨xh, 0, none⟩) 200 200⟩]) by rw [hu, hY]; exact lies_cells2 u2 (opA ⟨s.next, z, false, .slice (some ⟨xn, 0, none⟩) 200 200, .slice (some ⟨xh, 0, none⟩) 200 200⟩) 133)
          have A13 := hide (A12.out.below bm (by have := A12.out.up; have := HB.out; omega))
          have OK := hide (show OpOk u3 B s.vS ⟨s.next, z, false, .slice (some ⟨xn, 0, none⟩) 200 200, .slice (some ⟨xh, 0, none⟩) 200 200⟩ from ⟨⟨_, ⟨by simp, fun x hx => by rw [List.eq_of_mem_replicate hx]; exact i64_0⟩, GN.out.below bm⟩, ⟨_, by simp, GH.out.below bm⟩, fun g hg e => by cases hg; exact XS.out _ e rfl⟩)
          rw [← hu] at hS
          rw [← hu, ← hY]
          clear hu hY bm A12 GN GH XS
          have g3 := A13.out.st.v
          rw [EE.out.2.2.2.1, EE.out.2.2.1, EV.out, ← NV.out] at g3
          obtain ⟨v', x3, r3, g4, q2, -⟩ := run_pushW Tryz.underlying71 info133 rfl (by decide) 71 u3 B _ nV _ g3 ⟨Y, 0, none⟩ 1 1 (rowsC opC [⟨s.next, z, false, .slice (some ⟨xn, 0, none⟩) 200 200, .slice (some ⟨xh, 0, none⟩) 200 200⟩]) rfl LZ.out (opC_one (B := B) (w := u3) (vS := s.vS) (fun o ho => by rw [List.mem_singleton] at ho; subst ho; exact OK.out)) (by omega) (by decide) (by have := A13.out.up; have := HB.out; omega)
          obtain ⟨a', c', rfl, -⟩ := GRow.lies g4
          have TY := hide (ofty_row g3)
          have K4 := hide (grown_keep q2)
          have G4 := hide g4
          have R3 := hide r3
          clear g3 g4 q2 r3 LZ
          refine wpAnyH_ready (rs := [14]) (by kernel_rfl) (by simp) ?_
          refine AllReadyH.cons rfl (fun K hK => ?_) AllReadyH.nil
          refine wp_run 50 (.tmp 40) (.tmp 49) rfl rfl rfl rfl rfl R3.out ?_
          refine hK.out _ _ (hS.keepT K4.out TY.out (by decide)) (fun hS => ?_)
          clear hK K
          (try simp only [Act.put, List.setIfInBounds_toArray, List.set_cons_zero, List.set_cons_succ])
          have g5 : GRow x3 B 133 5 (.slice a' (nV + 1) c') (s3.V ++ [(⟨s.next, z, false, .slice (some ⟨xn, 0, none⟩) 200 200, .slice (some ⟨xh, 0, none⟩) 200 200⟩ : OpM)]).length (rowsC opC (s3.V ++ [(⟨s.next, z, false, .slice (some ⟨xn, 0, none⟩) 200 200, .slice (some ⟨xh, 0, none⟩) 200 200⟩ : OpM)])) := by rw [rowsC_app, List.length_append, EE.out.2.2.1, ← NV.out]; exact G4.out
          have k4 := K4.out
          rw [← EV.out, ← EE.out.2.2.2.1] at k4
          have bx := RBox.keepT A13.out.st.box k4 (ofty_row A13.out.st.v) (by decide)
          have A20 := hide (show At4 w (x3.setCell ⟨sb, 5, none⟩ (.slice a' (nV + 1) c')) B sb X0 #[.int .i64 kd, .int .i64 da, .int .i64 db, .int .i64 dd] { s3 with vV := .slice a' (nV + 1) c', V := s3.V ++ [(⟨s.next, z, false, .slice (some ⟨xn, 0, none⟩) 200 200, .slice (some ⟨xh, 0, none⟩) 200 200⟩ : OpM)] } from ⟨A13.out.st.pushV g5 k4 (by rw [EE.out.2.2.2.2.2.1]; exact OK.out), box_two A13.out.dd k4 (ofty_row A13.out.st.v) (by decide) bx, below_two A13.out.bw k4 (fun z hz => (World.ownsRow.lt A13.out.st.v z hz).1) A13.out.st.hb HB.out, Nat.le_trans A13.out.up (Nat.le_trans k4.size (by simp))⟩)
          obtain ⟨y1, f1⟩ := (RBox.cells bx).get 5 _ rfl
          clear g5 k4 bx A13 R3 K4 G4 TY OK
          refine take_at 15 (some 51) (v := ?_) rfl rfl (by kernel_rfl) (by kernel_rfl) (by kernel_rfl) (fun _ _ _ h => h) ⟨by rfl, ?_⟩ hS ?_
          rotate_left
          · intro wq hSw; go_simp; try rfl
          simp only [Act.put, List.setIfInBounds_toArray, List.set_cons_zero, List.set_cons_succ]
          refine take_at 16 (some 52) (v := ?_) rfl rfl (by kernel_rfl) (by kernel_rfl) (by kernel_rfl) (fun _ _ _ h => h) ⟨by rfl, ?_⟩ hS ?_
          rotate_left
          · intro wq hSw; go_simp; try rfl
          simp only [Act.put, List.setIfInBounds_toArray, List.set_cons_zero, List.set_cons_succ]
          refine wpAnyH_ready (rs := [17]) (by kernel_rfl) (by simp) ?_
          refine AllReadyH.cons rfl (fun K hK => ?_) AllReadyH.nil
          go_simp
          (try go_wp2_with fail)
          refine hK.out _ _ (hS.set (by decide)) (fun hS => ?_)
          clear hK K
          (try simp only [Act.put, List.setIfInBounds_toArray, List.set_cons_zero, List.set_cons_succ])
          clear hS y1 f1
          refine wpAnyH_done (by kernel_rfl) ?_ _
          obtain ⟨q6, f6⟩ := (RBox.cells A20.out.st.box).get 6 _ rfl
          go_wp2_with fail
          first | go_ret | go_ret2
          have A21 := A20.out.st.setNext (wrap64 (s3.next + 1))
          refine ⟨⟨⟨_, rfl⟩⟩, ⟨_, A21, ⟨by (try simp only); have := EE.out.1; omega, by (try simp only); rw [EE.out.2.1]; omega, by simp only [List.length_append, List.length_singleton]; rw [EE.out.2.2.1]; have := NV.out; omega, ⟨by (try simp only); rw [EE.out.2.2.2.2.2.2.1, EE.out.2.2.2.2.2.2.2.1]; exact HL.out.gi, by (try simp only); rw [EE.out.2.1, EE.out.2.2.2.2.1]; exact HL.out.ls, by (try simp only); rw [EE.out.2.2.2.2.2.2.2.1]; exact HL.out.ig⟩⟩⟩, ?_⟩
          exact bkeep A20.out.bw ((Keep.refl (fun y => y = sb) _).setCell (g := sb) (j := 6) (fun _ => rfl) _) HB.out (fun y e => by rw [e]; exact A20.out.st.hb)
        · obtain ⟨u1, mk, gm, bm⟩ := make131 we
          obtain ⟨xh, hx⟩ : ∃ y, y = we.heap.size := ⟨_, rfl⟩
          rw [← hx] at mk
          have HX2 := hide hx
          clear hx
          go_simp
          (try go_wp2_with fail)
          refine hK.out _ _ (hS.below bm) (fun hS => ?_)
          clear hK K
          (try simp only [Act.put, List.setIfInBounds_toArray, List.set_cons_zero, List.set_cons_succ])
          have GH := hide (show GRow u1 B 4 1 (.slice (some ⟨xh, 0, none⟩) 200 200) 200 (boolsV (List.replicate 200 false)) from GRow.mono (by rw [HX2.out]; exact gm) (by have := A4.out.up; have := HB.out; omega))
          have A11 := hide (A4.out.below bm (by have := A4.out.up; have := HB.out; omega))
          clear A4 mk gm bm HX2
          refine wpAnyH_ready (rs := [10]) (by kernel_rfl) (by simp) ?_
          refine AllReadyH.cons rfl (fun K hK => ?_) AllReadyH.nil
          obtain ⟨u2, mk, gm, bm⟩ := make72 u1
          obtain ⟨xn, hx⟩ : ∃ y, y = u1.heap.size := ⟨_, rfl⟩
          rw [← hx] at mk
          have HX2 := hide hx
          clear hx
          go_simp
          (try go_wp2_with fail)
          refine hK.out _ _ (hS.below bm) (fun hS => ?_)
          clear hK K
          (try simp only [Act.put, List.setIfInBounds_toArray, List.set_cons_zero, List.set_cons_succ])
          have GN := hide (show GRow u2 B 2 1 (.slice (some ⟨xn, 0, none⟩) 200 200) 200 (intsV (List.replicate 200 0)) from GRow.mono (by rw [HX2.out]; exact gm) (by have := A11.out.up; have := HB.out; omega))
          have A12 := hide (A11.out.below bm (by have := A11.out.up; have := HB.out; omega))
          have XS := hide (show ∀ g, s.vS.ownBlock = some g → xn ≠ g from fun g hg e => by have := (World.ownsRow.lt A11.out.st.ss g (by rw [EE.out.2.2.2.2.2.1]; exact hg)).2; have := HX2.out; omega)
          have GH2 := hide (GH.out.below bm)
          clear GH
          have GH := hide GH2.out
          clear GH2
          clear A11 mk gm bm HX2
          refine take_at 12 (some 48) (v := ?_) rfl rfl (by kernel_rfl) (by kernel_rfl) (by kernel_rfl) (fun _ _ _ h => h) ⟨by rfl, ?_⟩ hS ?_
          rotate_left
          · intro wq hSw; go_simp; try rfl
          simp only [Act.put, List.setIfInBounds_toArray, List.set_cons_zero, List.set_cons_succ]
          refine wpAnyH_ready (rs := [13]) (by kernel_rfl) (by simp) ?_
          refine AllReadyH.cons rfl (fun K hK => ?_) AllReadyH.nil
          refine wp_b71 (x := ⟨s.next, z, false, .slice (some ⟨xn, 0, none⟩) 200 200, .slice (some ⟨xh, 0, none⟩) 200 200⟩) rfl rfl ?_
          refine hK.out _ _ (hS.below (alloc_below _ _)) (fun hS => ?_)
          clear hK K
          (try simp only [Act.put, List.setIfInBounds_toArray, List.set_cons_zero, List.set_cons_succ])
          obtain ⟨u3, hu⟩ : ∃ y : World, y = u2.alloc (.cells (opA ⟨s.next, z, false, .slice (some ⟨xn, 0, none⟩) 200 200, .slice (some ⟨xh, 0, none⟩) 200 200⟩) 133) := ⟨_, rfl⟩
          obtain ⟨Y, hY⟩ : ∃ y, y = u2.heap.size := ⟨_, rfl⟩
          have bm : Below u2.heap.size u2 u3 := by rw [hu]; exact alloc_below _ _
          have LZ := hide (show Lies u3 (some ⟨Y, 0, none⟩) (rowsC opC [⟨s.next, z, false, .slice (some ⟨xn, 0, none⟩) 200 200, .slice (some ⟨xh, 0, none⟩) 200 200⟩]) by rw [hu, hY]; exact lies_cells2 u2 (opA ⟨s.next, z, false, .slice (some ⟨xn, 0, none⟩) 200 200, .slice (some ⟨xh, 0, none⟩) 200 200⟩) 133)
          have A13 := hide (A12.out.below bm (by have := A12.out.up; have := HB.out; omega))
          have OK := hide (show OpOk u3 B s.vS ⟨s.next, z, false, .slice (some ⟨xn, 0, none⟩) 200 200, .slice (some ⟨xh, 0, none⟩) 200 200⟩ from ⟨⟨_, ⟨by simp, fun x hx => by rw [List.eq_of_mem_replicate hx]; exact i64_0⟩, GN.out.below bm⟩, ⟨_, by simp, GH.out.below bm⟩, fun g hg e => by cases hg; exact XS.out _ e rfl⟩)
          rw [← hu] at hS
          rw [← hu, ← hY]
          clear hu hY bm A12 GN GH XS
          have g3 := A13.out.st.v
          rw [EE.out.2.2.2.1, EE.out.2.2.1, EV.out, ← NV.out] at g3
          obtain ⟨v', x3, r3, g4, q2, -⟩ := run_pushW Tryz.underlying71 info133 rfl (by decide) 71 u3 B _ nV _ g3 ⟨Y, 0, none⟩ 1 1 (rowsC opC [⟨s.next, z, false, .slice (some ⟨xn, 0, none⟩) 200 200, .slice (some ⟨xh, 0, none⟩) 200 200⟩]) rfl LZ.out (opC_one (B := B) (w := u3) (vS := s.vS) (fun o ho => by rw [List.mem_singleton] at ho; subst ho; exact OK.out)) (by omega) (by decide) (by have := A13.out.up; have := HB.out; omega)
          obtain ⟨a', c', rfl, -⟩ := GRow.lies g4
          have TY := hide (ofty_row g3)
          have K4 := hide (grown_keep q2)
          have G4 := hide g4
          have R3 := hide r3
          clear g3 g4 q2 r3 LZ
          refine wpAnyH_ready (rs := [14]) (by kernel_rfl) (by simp) ?_
          refine AllReadyH.cons rfl (fun K hK => ?_) AllReadyH.nil
          refine wp_run 50 (.tmp 40) (.tmp 49) rfl rfl rfl rfl rfl R3.out ?_
          refine hK.out _ _ (hS.keepT K4.out TY.out (by decide)) (fun hS => ?_)
          clear hK K
          (try simp only [Act.put, List.setIfInBounds_toArray, List.set_cons_zero, List.set_cons_succ])
          have g5 : GRow x3 B 133 5 (.slice a' (nV + 1) c') (s3.V ++ [(⟨s.next, z, false, .slice (some ⟨xn, 0, none⟩) 200 200, .slice (some ⟨xh, 0, none⟩) 200 200⟩ : OpM)]).length (rowsC opC (s3.V ++ [(⟨s.next, z, false, .slice (some ⟨xn, 0, none⟩) 200 200, .slice (some ⟨xh, 0, none⟩) 200 200⟩ : OpM)])) := by rw [rowsC_app, List.length_append, EE.out.2.2.1, ← NV.out]; exact G4.out
          have k4 := K4.out
          rw [← EV.out, ← EE.out.2.2.2.1] at k4
          have bx := RBox.keepT A13.out.st.box k4 (ofty_row A13.out.st.v) (by decide)
          have A20 := hide (show At4 w (x3.setCell ⟨sb, 5, none⟩ (.slice a' (nV + 1) c')) B sb X0 #[.int .i64 kd, .int .i64 da, .int .i64 db, .int .i64 dd] { s3 with vV := .slice a' (nV + 1) c', V := s3.V ++ [(⟨s.next, z, false, .slice (some ⟨xn, 0, none⟩) 200 200, .slice (some ⟨xh, 0, none⟩) 200 200⟩ : OpM)] } from ⟨A13.out.st.pushV g5 k4 (by rw [EE.out.2.2.2.2.2.1]; exact OK.out), box_two A13.out.dd k4 (ofty_row A13.out.st.v) (by decide) bx, below_two A13.out.bw k4 (fun z hz => (World.ownsRow.lt A13.out.st.v z hz).1) A13.out.st.hb HB.out, Nat.le_trans A13.out.up (Nat.le_trans k4.size (by simp))⟩)
          obtain ⟨y1, f1⟩ := (RBox.cells bx).get 5 _ rfl
          clear g5 k4 bx A13 R3 K4 G4 TY OK
          refine take_at 15 (some 51) (v := ?_) rfl rfl (by kernel_rfl) (by kernel_rfl) (by kernel_rfl) (fun _ _ _ h => h) ⟨by rfl, ?_⟩ hS ?_
          rotate_left
          · intro wq hSw; go_simp; try rfl
          simp only [Act.put, List.setIfInBounds_toArray, List.set_cons_zero, List.set_cons_succ]
          refine take_at 16 (some 52) (v := ?_) rfl rfl (by kernel_rfl) (by kernel_rfl) (by kernel_rfl) (fun _ _ _ h => h) ⟨by rfl, ?_⟩ hS ?_
          rotate_left
          · intro wq hSw; go_simp; try rfl
          simp only [Act.put, List.setIfInBounds_toArray, List.set_cons_zero, List.set_cons_succ]
          refine wpAnyH_ready (rs := [17]) (by kernel_rfl) (by simp) ?_
          refine AllReadyH.cons rfl (fun K hK => ?_) AllReadyH.nil
          go_simp
          (try go_wp2_with fail)
          refine hK.out _ _ (hS.set (by decide)) (fun hS => ?_)
          clear hK K
          (try simp only [Act.put, List.setIfInBounds_toArray, List.set_cons_zero, List.set_cons_succ])
          clear hS y1 f1
          refine wpAnyH_done (by kernel_rfl) ?_ _
          obtain ⟨q6, f6⟩ := (RBox.cells A20.out.st.box).get 6 _ rfl
          go_wp2_with fail
          first | go_ret | go_ret2
          have A21 := A20.out.st.setNext (wrap64 (s3.next + 1))
          refine ⟨⟨⟨_, rfl⟩⟩, ⟨_, A21, ⟨by (try simp only); have := EE.out.1; omega, by (try simp only); rw [EE.out.2.1]; omega, by simp only [List.length_append, List.length_singleton]; rw [EE.out.2.2.1]; have := NV.out; omega, ⟨by (try simp only); rw [EE.out.2.2.2.2.2.2.1, EE.out.2.2.2.2.2.2.2.1]; exact HL.out.gi, by (try simp only); rw [EE.out.2.1, EE.out.2.2.2.2.1]; exact HL.out.ls, by (try simp only); rw [EE.out.2.2.2.2.2.2.2.1]; exact HL.out.ig⟩⟩⟩, ?_⟩
          exact bkeep A20.out.bw ((Keep.refl (fun y => y = sb) _).setCell (g := sb) (j := 6) (fun _ => rfl) _) HB.out (fun y e => by rw [e]; exact A20.out.st.hb)
      · obtain ⟨u1, mk, gm, bm⟩ := make72 we
        obtain ⟨xn, hx⟩ : ∃ y, y = we.heap.size := ⟨_, rfl⟩
        rw [← hx] at mk
        have HX2 := hide hx
        clear hx
        go_simp
        (try go_wp2_with fail)
        refine hK.out _ _ (hS.below bm) (fun hS => ?_)
        clear hK K
        (try simp only [Act.put, List.setIfInBounds_toArray, List.set_cons_zero, List.set_cons_succ])
        have GN := hide (show GRow u1 B 2 1 (.slice (some ⟨xn, 0, none⟩) 200 200) 200 (intsV (List.replicate 200 0)) from GRow.mono (by rw [HX2.out]; exact gm) (by have := A4.out.up; have := HB.out; omega))
        have A11 := hide (A4.out.below bm (by have := A4.out.up; have := HB.out; omega))
        have XS := hide (show ∀ g, s.vS.ownBlock = some g → xn ≠ g from fun g hg e => by have := (World.ownsRow.lt A4.out.st.ss g (by rw [EE.out.2.2.2.2.2.1]; exact hg)).2; have := HX2.out; omega)
        clear A4 mk gm bm HX2
        refine wpAnyH_ready (rs := [4, 11]) (by kernel_rfl) (by simp) ?_
        refine AllReadyH.cons rfl (fun K hK => ?_) (AllReadyH.cons rfl (fun K hK => ?_) AllReadyH.nil)
        · have q5 := ((RBox.cells A11.out.st.box).get 5 _ rfl).1
          rw [EE.out.2.2.2.1, EV.out] at q5
          go_simp
          (try go_wp2_with fail)
          refine hK.out _ _ hS (fun hS => ?_)
          clear hK K
          (try simp only [Act.put, List.setIfInBounds_toArray, List.set_cons_zero, List.set_cons_succ])
          clear q5
          refine wpAnyH_ready (rs := [11]) (by kernel_rfl) (by simp) ?_
          refine AllReadyH.cons rfl (fun K hK => ?_) AllReadyH.nil
          obtain ⟨u2, mk, gm, bm⟩ := make131 u1
          obtain ⟨xh, hx⟩ : ∃ y, y = u1.heap.size := ⟨_, rfl⟩
          rw [← hx] at mk
          have HX2 := hide hx
          clear hx
          go_simp
          (try go_wp2_with fail)
          refine hK.out _ _ (hS.below bm) (fun hS => ?_)
          clear hK K
          (try simp only [Act.put, List.setIfInBounds_toArray, List.set_cons_zero, List.set_cons_succ])
          have GH := hide (show GRow u2 B 4 1 (.slice (some ⟨xh, 0, none⟩) 200 200) 200 (boolsV (List.replicate 200 false)) from GRow.mono (by rw [HX2.out]; exact gm) (by have := A11.out.up; have := HB.out; omega))
          have A12 := hide (A11.out.below bm (by have := A11.out.up; have := HB.out; omega))
          have GN2 := hide (GN.out.below bm)
          clear GN
          have GN := hide GN2.out
          clear GN2
          clear A11 mk gm bm HX2
          refine take_at 12 (some 48) (v := ?_) rfl rfl (by kernel_rfl) (by kernel_rfl) (by kernel_rfl) (fun _ _ _ h => h) ⟨by rfl, ?_⟩ hS ?_
          rotate_left
          · intro wq hSw; go_simp; try rfl
          simp only [Act.put, List.setIfInBounds_toArray, List.set_cons_zero, List.set_cons_succ]
          refine wpAnyH_ready (rs := [13]) (by kernel_rfl) (by simp) ?_
          refine AllReadyH.cons rfl (fun K hK => ?_) AllReadyH.nil
          refine wp_b71 (x := ⟨s.next, z, false, .slice (some ⟨xn, 0, none⟩) 200 200, .slice (some ⟨xh, 0, none⟩) 200 200⟩) rfl rfl ?_
          refine hK.out _ _ (hS.below (alloc_below _ _)) (fun hS => ?_)
          clear hK K
          (try simp only [Act.put, List.setIfInBounds_toArray, List.set_cons_zero, List.set_cons_succ])
          obtain ⟨u3, hu⟩ : ∃ y : World, y = u2.alloc (.cells (opA ⟨s.next, z, false, .slice (some ⟨xn, 0, none⟩) 200 200, .slice (some ⟨xh, 0, none⟩) 200 200⟩) 133) := ⟨_, rfl⟩
          obtain ⟨Y, hY⟩ : ∃ y, y = u2.heap.size := ⟨_, rfl⟩
          have bm : Below u2.heap.size u2 u3 := by rw [hu]; exact alloc_below _ _
          have LZ := hide (show Lies u3 (some ⟨Y, 0, none⟩) (rowsC opC [⟨s.next, z, false, .slice (some ⟨xn, 0, none⟩) 200 200, .slice (some ⟨xh, 0, none⟩) 200 200⟩]) by rw [hu, hY]; exact lies_cells2 u2 (opA ⟨s.next, z, false, .slice (some ⟨xn, 0, none⟩) 200 200, .slice (some ⟨xh, 0, none⟩) 200 200⟩) 133)
          have A13 := hide (A12.out.below bm (by have := A12.out.up; have := HB.out; omega))
          have OK := hide (show OpOk u3 B s.vS ⟨s.next, z, false, .slice (some ⟨xn, 0, none⟩) 200 200, .slice (some ⟨xh, 0, none⟩) 200 200⟩ from ⟨⟨_, ⟨by simp, fun x hx => by rw [List.eq_of_mem_replicate hx]; exact i64_0⟩, GN.out.below bm⟩, ⟨_, by simp, GH.out.below bm⟩, fun g hg e => by cases hg; exact XS.out _ e rfl⟩)
          rw [← hu] at hS
          rw [← hu, ← hY]
          clear hu hY bm A12 GN GH XS
          have g3 := A13.out.st.v
          rw [EE.out.2.2.2.1, EE.out.2.2.1, EV.out, ← NV.out] at g3
          obtain ⟨v', x3, r3, g4, q2, -⟩ := run_pushW Tryz.underlying71 info133 rfl (by decide) 71 u3 B _ nV _ g3 ⟨Y, 0, none⟩ 1 1 (rowsC opC [⟨s.next, z, false, .slice (some ⟨xn, 0, none⟩) 200 200, .slice (some ⟨xh, 0, none⟩) 200 200⟩]) rfl LZ.out (opC_one (B := B) (w := u3) (vS := s.vS) (fun o ho => by rw [List.mem_singleton] at ho; subst ho; exact OK.out)) (by omega) (by decide) (by have := A13.out.up; have := HB.out; omega)
          obtain ⟨a', c', rfl, -⟩ := GRow.lies g4
          have TY := hide (ofty_row g3)
          have K4 := hide (grown_keep q2)
          have G4 := hide g4
          have R3 := hide r3
          clear g3 g4 q2 r3 LZ
          refine wpAnyH_ready (rs := [14]) (by kernel_rfl) (by simp) ?_
          refine AllReadyH.cons rfl (fun K hK => ?_) AllReadyH.nil
          refine wp_run 50 (.tmp 40) (.tmp 49) rfl rfl rfl rfl rfl R3.out ?_
          refine hK.out _ _ (hS.keepT K4.out TY.out (by decide)) (fun hS => ?_)
          clear hK K
          (try simp only [Act.put, List.setIfInBounds_toArray, List.set_cons_zero, List.set_cons_succ])
          have g5 : GRow x3 B 133 5 (.slice a' (nV + 1) c') (s3.V ++ [(⟨s.next, z, false, .slice (some ⟨xn, 0, none⟩) 200 200, .slice (some ⟨xh, 0, none⟩) 200 200⟩ : OpM)]).length (rowsC opC (s3.V ++ [(⟨s.next, z, false, .slice (some ⟨xn, 0, none⟩) 200 200, .slice (some ⟨xh, 0, none⟩) 200 200⟩ : OpM)])) := by rw [rowsC_app, List.length_append, EE.out.2.2.1, ← NV.out]; exact G4.out
          have k4 := K4.out
          rw [← EV.out, ← EE.out.2.2.2.1] at k4
          have bx := RBox.keepT A13.out.st.box k4 (ofty_row A13.out.st.v) (by decide)
          have A20 := hide (show At4 w (x3.setCell ⟨sb, 5, none⟩ (.slice a' (nV + 1) c')) B sb X0 #[.int .i64 kd, .int .i64 da, .int .i64 db, .int .i64 dd] { s3 with vV := .slice a' (nV + 1) c', V := s3.V ++ [(⟨s.next, z, false, .slice (some ⟨xn, 0, none⟩) 200 200, .slice (some ⟨xh, 0, none⟩) 200 200⟩ : OpM)] } from ⟨A13.out.st.pushV g5 k4 (by rw [EE.out.2.2.2.2.2.1]; exact OK.out), box_two A13.out.dd k4 (ofty_row A13.out.st.v) (by decide) bx, below_two A13.out.bw k4 (fun z hz => (World.ownsRow.lt A13.out.st.v z hz).1) A13.out.st.hb HB.out, Nat.le_trans A13.out.up (Nat.le_trans k4.size (by simp))⟩)
          obtain ⟨y1, f1⟩ := (RBox.cells bx).get 5 _ rfl
          clear g5 k4 bx A13 R3 K4 G4 TY OK
          refine take_at 15 (some 51) (v := ?_) rfl rfl (by kernel_rfl) (by kernel_rfl) (by kernel_rfl) (fun _ _ _ h => h) ⟨by rfl, ?_⟩ hS ?_
          rotate_left
          · intro wq hSw; go_simp; try rfl
          simp only [Act.put, List.setIfInBounds_toArray, List.set_cons_zero, List.set_cons_succ]
          refine take_at 16 (some 52) (v := ?_) rfl rfl (by kernel_rfl) (by kernel_rfl) (by kernel_rfl) (fun _ _ _ h => h) ⟨by rfl, ?_⟩ hS ?_
          rotate_left
          · intro wq hSw; go_simp; try rfl
          simp only [Act.put, List.setIfInBounds_toArray, List.set_cons_zero, List.set_cons_succ]
          refine wpAnyH_ready (rs := [17]) (by kernel_rfl) (by simp) ?_
          refine AllReadyH.cons rfl (fun K hK => ?_) AllReadyH.nil
          go_simp
          (try go_wp2_with fail)
          refine hK.out _ _ (hS.set (by decide)) (fun hS => ?_)
          clear hK K
          (try simp only [Act.put, List.setIfInBounds_toArray, List.set_cons_zero, List.set_cons_succ])
          clear hS y1 f1
          refine wpAnyH_done (by kernel_rfl) ?_ _
          obtain ⟨q6, f6⟩ := (RBox.cells A20.out.st.box).get 6 _ rfl
          go_wp2_with fail
          first | go_ret | go_ret2
          have A21 := A20.out.st.setNext (wrap64 (s3.next + 1))
          refine ⟨⟨⟨_, rfl⟩⟩, ⟨_, A21, ⟨by (try simp only); have := EE.out.1; omega, by (try simp only); rw [EE.out.2.1]; omega, by simp only [List.length_append, List.length_singleton]; rw [EE.out.2.2.1]; have := NV.out; omega, ⟨by (try simp only); rw [EE.out.2.2.2.2.2.2.1, EE.out.2.2.2.2.2.2.2.1]; exact HL.out.gi, by (try simp only); rw [EE.out.2.1, EE.out.2.2.2.2.1]; exact HL.out.ls, by (try simp only); rw [EE.out.2.2.2.2.2.2.2.1]; exact HL.out.ig⟩⟩⟩, ?_⟩
          exact bkeep A20.out.bw ((Keep.refl (fun y => y = sb) _).setCell (g := sb) (j := 6) (fun _ => rfl) _) HB.out (fun y e => by rw [e]; exact A20.out.st.hb)
        · obtain ⟨u2, mk, gm, bm⟩ := make131 u1
          obtain ⟨xh, hx⟩ : ∃ y, y = u1.heap.size := ⟨_, rfl⟩
          rw [← hx] at mk
          have HX2 := hide hx
          clear hx
          go_simp
          (try go_wp2_with fail)
          refine hK.out _ _ (hS.below bm) (fun hS => ?_)
          clear hK K
          (try simp only [Act.put, List.setIfInBounds_toArray, List.set_cons_zero, List.set_cons_succ])
          have GH := hide (show GRow u2 B 4 1 (.slice (some ⟨xh, 0, none⟩) 200 200) 200 (boolsV (List.replicate 200 false)) from GRow.mono (by rw [HX2.out]; exact gm) (by have := A11.out.up; have := HB.out; omega))
          have A12 := hide (A11.out.below bm (by have := A11.out.up; have := HB.out; omega))
          have GN2 := hide (GN.out.below bm)
          clear GN
          have GN := hide GN2.out
          clear GN2
          clear A11 mk gm bm HX2
          refine take_at 12 (some 48) (v := ?_) rfl rfl (by kernel_rfl) (by kernel_rfl) (by kernel_rfl) (fun _ _ _ h => h) ⟨by rfl, ?_⟩ hS ?_
          rotate_left
          · intro wq hSw; go_simp; try rfl
          simp only [Act.put, List.setIfInBounds_toArray, List.set_cons_zero, List.set_cons_succ]
          refine wpAnyH_ready (rs := [4, 13]) (by kernel_rfl) (by simp) ?_
          refine AllReadyH.cons rfl (fun K hK => ?_) (AllReadyH.cons rfl (fun K hK => ?_) AllReadyH.nil)
          · have q5 := ((RBox.cells A12.out.st.box).get 5 _ rfl).1
            rw [EE.out.2.2.2.1, EV.out] at q5
            go_simp
            (try go_wp2_with fail)
            refine hK.out _ _ hS (fun hS => ?_)
            clear hK K
            (try simp only [Act.put, List.setIfInBounds_toArray, List.set_cons_zero, List.set_cons_succ])
            clear q5
            refine wpAnyH_ready (rs := [13]) (by kernel_rfl) (by simp) ?_
            refine AllReadyH.cons rfl (fun K hK => ?_) AllReadyH.nil
            refine wp_b71 (x := ⟨s.next, z, false, .slice (some ⟨xn, 0, none⟩) 200 200, .slice (some ⟨xh, 0, none⟩) 200 200⟩) rfl rfl ?_
            refine hK.out _ _ (hS.below (alloc_below _ _)) (fun hS => ?_)
            clear hK K
            (try simp only [Act.put, List.setIfInBounds_toArray, List.set_cons_zero, List.set_cons_succ])
            obtain ⟨u3, hu⟩ : ∃ y : World, y = u2.alloc (.cells (opA ⟨s.next, z, false, .slice (some ⟨xn, 0, none⟩) 200 200, .slice (some ⟨xh, 0, none⟩) 200 200⟩) 133) := ⟨_, rfl⟩
            obtain ⟨Y, hY⟩ : ∃ y, y = u2.heap.size := ⟨_, rfl⟩
            have bm : Below u2.heap.size u2 u3 := by rw [hu]; exact alloc_below _ _
            have LZ := hide (show Lies u3 (some ⟨Y, 0, none⟩) (rowsC opC [⟨s.next, z, false, .slice (some ⟨xn, 0, none⟩) 200 200, .slice (some ⟨xh, 0, none⟩) 200 200⟩]) by rw [hu, hY]; exact lies_cells2 u2 (opA ⟨s.next, z, false, .slice (some ⟨xn, 0, none⟩) 200 200, .slice (some ⟨xh, 0, none⟩) 200 200⟩) 133)
            have A13 := hide (A12.out.below bm (by have := A12.out.up; have := HB.out; omega))
            have OK := hide (show OpOk u3 B s.vS ⟨s.next, z, false, .slice (some ⟨xn, 0, none⟩) 200 200, .slice (some ⟨xh, 0, none⟩) 200 200⟩ from ⟨⟨_, ⟨by simp, fun x hx => by rw [List.eq_of_mem_replicate hx]; exact i64_0⟩, GN.out.below bm⟩, ⟨_, by simp, GH.out.below bm⟩, fun g hg e => by cases hg; exact XS.out _ e rfl⟩)
            rw [← hu] at hS
            rw [← hu, ← hY]
            clear hu hY bm A12 GN GH XS
            have g3 := A13.out.st.v
            rw [EE.out.2.2.2.1, EE.out.2.2.1, EV.out, ← NV.out] at g3
            obtain ⟨v', x3, r3, g4, q2, -⟩ := run_pushW Tryz.underlying71 info133 rfl (by decide) 71 u3 B _ nV _ g3 ⟨Y, 0, none⟩ 1 1 (rowsC opC [⟨s.next, z, false, .slice (some ⟨xn, 0, none⟩) 200 200, .slice (some ⟨xh, 0, none⟩) 200 200⟩]) rfl LZ.out (opC_one (B := B) (w := u3) (vS := s.vS) (fun o ho => by rw [List.mem_singleton] at ho; subst ho; exact OK.out)) (by omega) (by decide) (by have := A13.out.up; have := HB.out; omega)
            obtain ⟨a', c', rfl, -⟩ := GRow.lies g4
            have TY := hide (ofty_row g3)
            have K4 := hide (grown_keep q2)
            have G4 := hide g4
            have R3 := hide r3
            clear g3 g4 q2 r3 LZ
            refine wpAnyH_ready (rs := [14]) (by kernel_rfl) (by simp) ?_
            refine AllReadyH.cons rfl (fun K hK => ?_) AllReadyH.nil
            refine wp_run 50 (.tmp 40) (.tmp 49) rfl rfl rfl rfl rfl R3.out ?_
            refine hK.out _ _ (hS.keepT K4.out TY.out (by decide)) (fun hS => ?_)
            clear hK K
            (try simp only [Act.put, List.setIfInBounds_toArray, List.set_cons_zero, List.set_cons_succ])
            have g5 : GRow x3 B 133 5 (.slice a' (nV + 1) c') (s3.V ++ [(⟨s.next, z, false, .slice (some ⟨xn, 0, none⟩) 200 200, .slice (some ⟨xh, 0, none⟩) 200 200⟩ : OpM)]).length (rowsC opC (s3.V ++ [(⟨s.next, z, false, .slice (some ⟨xn, 0, none⟩) 200 200, .slice (some ⟨xh, 0, none⟩) 200 200⟩ : OpM)])) := by rw [rowsC_app, List.length_append, EE.out.2.2.1, ← NV.out]; exact G4.out
            have k4 := K4.out
            rw [← EV.out, ← EE.out.2.2.2.1] at k4
            have bx := RBox.keepT A13.out.st.box k4 (ofty_row A13.out.st.v) (by decide)
            have A20 := hide (show At4 w (x3.setCell ⟨sb, 5, none⟩ (.slice a' (nV + 1) c')) B sb X0 #[.int .i64 kd, .int .i64 da, .int .i64 db, .int .i64 dd] { s3 with vV := .slice a' (nV + 1) c', V := s3.V ++ [(⟨s.next, z, false, .slice (some ⟨xn, 0, none⟩) 200 200, .slice (some ⟨xh, 0, none⟩) 200 200⟩ : OpM)] } from ⟨A13.out.st.pushV g5 k4 (by rw [EE.out.2.2.2.2.2.1]; exact OK.out), box_two A13.out.dd k4 (ofty_row A13.out.st.v) (by decide) bx, below_two A13.out.bw k4 (fun z hz => (World.ownsRow.lt A13.out.st.v z hz).1) A13.out.st.hb HB.out, Nat.le_trans A13.out.up (Nat.le_trans k4.size (by simp))⟩)
            obtain ⟨y1, f1⟩ := (RBox.cells bx).get 5 _ rfl
            clear g5 k4 bx A13 R3 K4 G4 TY OK
            refine take_at 15 (some 51) (v := ?_) rfl rfl (by kernel_rfl) (by kernel_rfl) (by kernel_rfl) (fun _ _ _ h => h) ⟨by rfl, ?_⟩ hS ?_
            rotate_left
            · intro wq hSw; go_simp; try rfl
            simp only [Act.put, List.setIfInBounds_toArray, List.set_cons_zero, List.set_cons_succ]
            refine take_at 16 (some 52) (v := ?_) rfl rfl (by kernel_rfl) (by kernel_rfl) (by kernel_rfl) (fun _ _ _ h => h) ⟨by rfl, ?_⟩ hS ?_
            rotate_left
            · intro wq hSw; go_simp; try rfl
            simp only [Act.put, List.setIfInBounds_toArray, List.set_cons_zero, List.set_cons_succ]
            refine wpAnyH_ready (rs := [17]) (by kernel_rfl) (by simp) ?_
            refine AllReadyH.cons rfl (fun K hK => ?_) AllReadyH.nil
            go_simp
            (try go_wp2_with fail)
            refine hK.out _ _ (hS.set (by decide)) (fun hS => ?_)
            clear hK K
            (try simp only [Act.put, List.setIfInBounds_toArray, List.set_cons_zero, List.set_cons_succ])
            clear hS y1 f1
            refine wpAnyH_done (by kernel_rfl) ?_ _
            obtain ⟨q6, f6⟩ := (RBox.cells A20.out.st.box).get 6 _ rfl
            go_wp2_with fail
            first | go_ret | go_ret2
            have A21 := A20.out.st.setNext (wrap64 (s3.next + 1))
            refine ⟨⟨⟨_, rfl⟩⟩, ⟨_, A21, ⟨by (try simp only); have := EE.out.1; omega, by (try simp only); rw [EE.out.2.1]; omega, by simp only [List.length_append, List.length_singleton]; rw [EE.out.2.2.1]; have := NV.out; omega, ⟨by (try simp only); rw [EE.out.2.2.2.2.2.2.1, EE.out.2.2.2.2.2.2.2.1]; exact HL.out.gi, by (try simp only); rw [EE.out.2.1, EE.out.2.2.2.2.1]; exact HL.out.ls, by (try simp only); rw [EE.out.2.2.2.2.2.2.2.1]; exact HL.out.ig⟩⟩⟩, ?_⟩
            exact bkeep A20.out.bw ((Keep.refl (fun y => y = sb) _).setCell (g := sb) (j := 6) (fun _ => rfl) _) HB.out (fun y e => by rw [e]; exact A20.out.st.hb)
          · refine wp_b71 (x := ⟨s.next, z, false, .slice (some ⟨xn, 0, none⟩) 200 200, .slice (some ⟨xh, 0, none⟩) 200 200⟩) rfl rfl ?_
            refine hK.out _ _ (hS.below (alloc_below _ _)) (fun hS => ?_)
            clear hK K
            (try simp only [Act.put, List.setIfInBounds_toArray, List.set_cons_zero, List.set_cons_succ])
            obtain ⟨u3, hu⟩ : ∃ y : World, y = u2.alloc (.cells (opA ⟨s.next, z, false, .slice (some ⟨xn, 0, none⟩) 200 200, .slice (some ⟨xh, 0, none⟩) 200 200⟩) 133) := ⟨_, rfl⟩
            obtain ⟨Y, hY⟩ : ∃ y, y = u2.heap.size := ⟨_, rfl⟩
            have bm : Below u2.heap.size u2 u3 := by rw [hu]; exact alloc_below _ _
            have LZ := hide (show Lies u3 (some ⟨Y, 0, none⟩) (rowsC opC [⟨s.next, z, false, .slice (some ⟨xn, 0, none⟩) 200 200, .slice (some ⟨xh, 0, none⟩) 200 200⟩]) by rw [hu, hY]; exact lies_cells2 u2 (opA ⟨s.next, z, false, .slice (some ⟨xn, 0, none⟩) 200 200, .slice (some ⟨xh, 0, none⟩) 200 200⟩) 133)
            have A13 := hide (A12.out.below bm (by have := A12.out.up; have := HB.out; omega))
            have OK := hide (show OpOk u3 B s.vS ⟨s.next, z, false, .slice (some ⟨xn, 0, none⟩) 200 200, .slice (some ⟨xh, 0, none⟩) 200 200⟩ from ⟨⟨_, ⟨by simp, fun x hx => by rw [List.eq_of_mem_replicate hx]; exact i64_0⟩, GN.out.below bm⟩, ⟨_, by simp, GH.out.below bm⟩, fun g hg e => by cases hg; exact XS.out _ e rfl⟩)
            rw [← hu] at hS
            rw [← hu, ← hY]
            clear hu hY bm A12 GN GH XS
            refine wpAnyH_ready (rs := [4]) (by kernel_rfl) (by simp) ?_
            refine AllReadyH.cons rfl (fun K hK => ?_) AllReadyH.nil
            have q5 := ((RBox.cells A13.out.st.box).get 5 _ rfl).1
            rw [EE.out.2.2.2.1, EV.out] at q5
            go_simp
            (try go_wp2_with fail)
            refine hK.out _ _ hS (fun hS => ?_)
            clear hK K
            (try simp only [Act.put, List.setIfInBounds_toArray, List.set_cons_zero, List.set_cons_succ])
            clear q5
            have g3 := A13.out.st.v
            rw [EE.out.2.2.2.1, EE.out.2.2.1, EV.out, ← NV.out] at g3
            obtain ⟨v', x3, r3, g4, q2, -⟩ := run_pushW Tryz.underlying71 info133 rfl (by decide) 71 u3 B _ nV _ g3 ⟨Y, 0, none⟩ 1 1 (rowsC opC [⟨s.next, z, false, .slice (some ⟨xn, 0, none⟩) 200 200, .slice (some ⟨xh, 0, none⟩) 200 200⟩]) rfl LZ.out (opC_one (B := B) (w := u3) (vS := s.vS) (fun o ho => by rw [List.mem_singleton] at ho; subst ho; exact OK.out)) (by omega) (by decide) (by have := A13.out.up; have := HB.out; omega)
            obtain ⟨a', c', rfl, -⟩ := GRow.lies g4
            have TY := hide (ofty_row g3)
            have K4 := hide (grown_keep q2)
            have G4 := hide g4
            have R3 := hide r3
            clear g3 g4 q2 r3 LZ
            refine wpAnyH_ready (rs := [14]) (by kernel_rfl) (by simp) ?_
            refine AllReadyH.cons rfl (fun K hK => ?_) AllReadyH.nil
            refine wp_run 50 (.tmp 40) (.tmp 49) rfl rfl rfl rfl rfl R3.out ?_
            refine hK.out _ _ (hS.keepT K4.out TY.out (by decide)) (fun hS => ?_)
            clear hK K
            (try simp only [Act.put, List.setIfInBounds_toArray, List.set_cons_zero, List.set_cons_succ])
            have g5 : GRow x3 B 133 5 (.slice a' (nV + 1) c') (s3.V ++ [(⟨s.next, z, false, .slice (some ⟨xn, 0, none⟩) 200 200, .slice (some ⟨xh, 0, none⟩) 200 200⟩ : OpM)]).length (rowsC opC (s3.V ++ [(⟨s.next, z, false, .slice (some ⟨xn, 0, none⟩) 200 200, .slice (some ⟨xh, 0, none⟩) 200 200⟩ : OpM)])) := by rw [rowsC_app, List.length_append, EE.out.2.2.1, ← NV.out]; exact G4.out
            have k4 := K4.out
            rw [← EV.out, ← EE.out.2.2.2.1] at k4
            have bx := RBox.keepT A13.out.st.box k4 (ofty_row A13.out.st.v) (by decide)
            have A20 := hide (show At4 w (x3.setCell ⟨sb, 5, none⟩ (.slice a' (nV + 1) c')) B sb X0 #[.int .i64 kd, .int .i64 da, .int .i64 db, .int .i64 dd] { s3 with vV := .slice a' (nV + 1) c', V := s3.V ++ [(⟨s.next, z, false, .slice (some ⟨xn, 0, none⟩) 200 200, .slice (some ⟨xh, 0, none⟩) 200 200⟩ : OpM)] } from ⟨A13.out.st.pushV g5 k4 (by rw [EE.out.2.2.2.2.2.1]; exact OK.out), box_two A13.out.dd k4 (ofty_row A13.out.st.v) (by decide) bx, below_two A13.out.bw k4 (fun z hz => (World.ownsRow.lt A13.out.st.v z hz).1) A13.out.st.hb HB.out, Nat.le_trans A13.out.up (Nat.le_trans k4.size (by simp))⟩)
            obtain ⟨y1, f1⟩ := (RBox.cells bx).get 5 _ rfl
            clear g5 k4 bx A13 R3 K4 G4 TY OK
            refine take_at 15 (some 51) (v := ?_) rfl rfl (by kernel_rfl) (by kernel_rfl) (by kernel_rfl) (fun _ _ _ h => h) ⟨by rfl, ?_⟩ hS ?_
            rotate_left
            · intro wq hSw; go_simp; try rfl
            simp only [Act.put, List.setIfInBounds_toArray, List.set_cons_zero, List.set_cons_succ]
            refine take_at 16 (some 52) (v := ?_) rfl rfl (by kernel_rfl) (by kernel_rfl) (by kernel_rfl) (fun _ _ _ h => h) ⟨by rfl, ?_⟩ hS ?_
            rotate_left
            · intro wq hSw; go_simp; try rfl
            simp only [Act.put, List.setIfInBounds_toArray, List.set_cons_zero, List.set_cons_succ]
            refine wpAnyH_ready (rs := [17]) (by kernel_rfl) (by simp) ?_
            refine AllReadyH.cons rfl (fun K hK => ?_) AllReadyH.nil
            go_simp
            (try go_wp2_with fail)
            refine hK.out _ _ (hS.set (by decide)) (fun hS => ?_)
            clear hK K
            (try simp only [Act.put, List.setIfInBounds_toArray, List.set_cons_zero, List.set_cons_succ])
            clear hS y1 f1
            refine wpAnyH_done (by kernel_rfl) ?_ _
            obtain ⟨q6, f6⟩ := (RBox.cells A20.out.st.box).get 6 _ rfl
            go_wp2_with fail
            first | go_ret | go_ret2
            have A21 := A20.out.st.setNext (wrap64 (s3.next + 1))
            refine ⟨⟨⟨_, rfl⟩⟩, ⟨_, A21, ⟨by (try simp only); have := EE.out.1; omega, by (try simp only); rw [EE.out.2.1]; omega, by simp only [List.length_append, List.length_singleton]; rw [EE.out.2.2.1]; have := NV.out; omega, ⟨by (try simp only); rw [EE.out.2.2.2.2.2.2.1, EE.out.2.2.2.2.2.2.2.1]; exact HL.out.gi, by (try simp only); rw [EE.out.2.1, EE.out.2.2.2.2.1]; exact HL.out.ls, by (try simp only); rw [EE.out.2.2.2.2.2.2.2.1]; exact HL.out.ig⟩⟩⟩, ?_⟩
            exact bkeep A20.out.bw ((Keep.refl (fun y => y = sb) _).setCell (g := sb) (j := 6) (fun _ => rfl) _) HB.out (fun y e => by rw [e]; exact A20.out.st.hb)
      · obtain ⟨u1, mk, gm, bm⟩ := make131 we
        obtain ⟨xh, hx⟩ : ∃ y, y = we.heap.size := ⟨_, rfl⟩
        rw [← hx] at mk
        have HX2 := hide hx
        clear hx
        go_simp
        (try go_wp2_with fail)
        refine hK.out _ _ (hS.below bm) (fun hS => ?_)
        clear hK K
        (try simp only [Act.put, List.setIfInBounds_toArray, List.set_cons_zero, List.set_cons_succ])
        have GH := hide (show GRow u1 B 4 1 (.slice (some ⟨xh, 0, none⟩) 200 200) 200 (boolsV (List.replicate 200 false)) from GRow.mono (by rw [HX2.out]; exact gm) (by have := A4.out.up; have := HB.out; omega))
        have A11 := hide (A4.out.below bm (by have := A4.out.up; have := HB.out; omega))
        clear A4 mk gm bm HX2
        refine wpAnyH_ready (rs := [4, 10]) (by kernel_rfl) (by simp) ?_
        refine AllReadyH.cons rfl (fun K hK => ?_) (AllReadyH.cons rfl (fun K hK => ?_) AllReadyH.nil)
        · have q5 := ((RBox.cells A11.out.st.box).get 5 _ rfl).1
          rw [EE.out.2.2.2.1, EV.out] at q5
          go_simp
          (try go_wp2_with fail)
          refine hK.out _ _ hS (fun hS => ?_)
          clear hK K
          (try simp only [Act.put, List.setIfInBounds_toArray, List.set_cons_zero, List.set_cons_succ])
          clear q5
          refine wpAnyH_ready (rs := [10]) (by kernel_rfl) (by simp) ?_
          refine AllReadyH.cons rfl (fun K hK => ?_) AllReadyH.nil
          obtain ⟨u2, mk, gm, bm⟩ := make72 u1
          obtain ⟨xn, hx⟩ : ∃ y, y = u1.heap.size := ⟨_, rfl⟩
          rw [← hx] at mk
          have HX2 := hide hx
          clear hx
          go_simp
          (try go_wp2_with fail)
          refine hK.out _ _ (hS.below bm) (fun hS => ?_)
          clear hK K
          (try simp only [Act.put, List.setIfInBounds_toArray, List.set_cons_zero, List.set_cons_succ])
          have GN := hide (show GRow u2 B 2 1 (.slice (some ⟨xn, 0, none⟩) 200 200) 200 (intsV (List.replicate 200 0)) from GRow.mono (by rw [HX2.out]; exact gm) (by have := A11.out.up; have := HB.out; omega))
          have A12 := hide (A11.out.below bm (by have := A11.out.up; have := HB.out; omega))
          have XS := hide (show ∀ g, s.vS.ownBlock = some g → xn ≠ g from fun g hg e => by have := (World.ownsRow.lt A11.out.st.ss g (by rw [EE.out.2.2.2.2.2.1]; exact hg)).2; have := HX2.out; omega)
          have GH2 := hide (GH.out.below bm)
          clear GH
          have GH := hide GH2.out
          clear GH2
          clear A11 mk gm bm HX2
          refine take_at 12 (some 48) (v := ?_) rfl rfl (by kernel_rfl) (by kernel_rfl) (by kernel_rfl) (fun _ _ _ h => h) ⟨by rfl, ?_⟩ hS ?_
          rotate_left
          · intro wq hSw; go_simp; try rfl
          simp only [Act.put, List.setIfInBounds_toArray, List.set_cons_zero, List.set_cons_succ]
          refine wpAnyH_ready (rs := [13]) (by kernel_rfl) (by simp) ?_
          refine AllReadyH.cons rfl (fun K hK => ?_) AllReadyH.nil
          refine wp_b71 (x := ⟨s.next, z, false, .slice (some ⟨xn, 0, none⟩) 200 200, .slice (some ⟨xh, 0, none⟩) 200 200⟩) rfl rfl ?_
          refine hK.out _ _ (hS.below (alloc_below _ _)) (fun hS => ?_)
          clear hK K
          (try simp only [Act.put, List.setIfInBounds_toArray, List.set_cons_zero, List.set_cons_succ])
          obtain ⟨u3, hu⟩ : ∃ y : World, y = u2.alloc (.cells (opA ⟨s.next, z, false, .slice (some ⟨xn, 0, none⟩) 200 200, .slice (some ⟨xh, 0, none⟩) 200 200⟩) 133) := ⟨_, rfl⟩
          obtain ⟨Y, hY⟩ : ∃ y, y = u2.heap.size := ⟨_, rfl⟩
          have bm : Below u2.heap.size u2 u3 := by rw [hu]; exact alloc_below _ _
          have LZ := hide (show Lies u3 (some ⟨Y, 0, none⟩) (rowsC opC [⟨s.next, z, false, .slice (some ⟨xn, 0, none⟩) 200 200, .slice (some ⟨xh, 0, none⟩) 200 200⟩]) by rw [hu, hY]; exact lies_cells2 u2 (opA ⟨s.next, z, false, .slice (some ⟨xn, 0, none⟩) 200 200, .slice (some ⟨xh, 0, none⟩) 200 200⟩) 133)
          have A13 := hide (A12.out.below bm (by have := A12.out.up; have := HB.out; omega))
          have OK := hide (show OpOk u3 B s.vS ⟨s.next, z, false, .slice (some ⟨xn, 0, none⟩) 200 200, .slice (some ⟨xh, 0, none⟩) 200 200⟩ from ⟨⟨_, ⟨by simp, fun x hx => by rw [List.eq_of_mem_replicate hx]; exact i64_0⟩, GN.out.below bm⟩, ⟨_, by simp, GH.out.below bm⟩, fun g hg e => by cases hg; exact XS.out _ e rfl⟩)
          rw [← hu] at hS
          rw [← hu, ← hY]
          clear hu hY bm A12 GN GH XS
          have g3 := A13.out.st.v
          rw [EE.out.2.2.2.1, EE.out.2.2.1, EV.out, ← NV.out] at g3
          obtain ⟨v', x3, r3, g4, q2, -⟩ := run_pushW Tryz.underlying71 info133 rfl (by decide) 71 u3 B _ nV _ g3 ⟨Y, 0, none⟩ 1 1 (rowsC opC [⟨s.next, z, false, .slice (some ⟨xn, 0, none⟩) 200 200, .slice (some ⟨xh, 0, none⟩) 200 200⟩]) rfl LZ.out (opC_one (B := B) (w := u3) (vS := s.vS) (fun o ho => by rw [List.mem_singleton] at ho; subst ho; exact OK.out)) (by omega) (by decide) (by have := A13.out.up; have := HB.out; omega)
          obtain ⟨a', c', rfl, -⟩ := GRow.lies g4
          have TY := hide (ofty_row g3)
          have K4 := hide (grown_keep q2)
          have G4 := hide g4
          have R3 := hide r3
          clear g3 g4 q2 r3 LZ
          refine wpAnyH_ready (rs := [14]) (by kernel_rfl) (by simp) ?_
          refine AllReadyH.cons rfl (fun K hK => ?_) AllReadyH.nil
          refine wp_run 50 (.tmp 40) (.tmp 49) rfl rfl rfl rfl rfl R3.out ?_
          refine hK.out _ _ (hS.keepT K4.out TY.out (by decide)) (fun hS => ?_)
          clear hK K
          (try simp only [Act.put, List.setIfInBounds_toArray, List.set_cons_zero, List.set_cons_succ])
          have g5 : GRow x3 B 133 5 (.slice a' (nV + 1) c') (s3.V ++ [(⟨s.next, z, false, .slice (some ⟨xn, 0, none⟩) 200 200, .slice (some ⟨xh, 0, none⟩) 200 200⟩ : OpM)]).length (rowsC opC (s3.V ++ [(⟨s.next, z, false, .slice (some ⟨xn, 0, none⟩) 200 200, .slice (some ⟨xh, 0, none⟩) 200 200⟩ : OpM)])) := by rw [rowsC_app, List.length_append, EE.out.2.2.1, ← NV.out]; exact G4.out
          have k4 := K4.out
          rw [← EV.out, ← EE.out.2.2.2.1] at k4
          have bx := RBox.keepT A13.out.st.box k4 (ofty_row A13.out.st.v) (by decide)
          have A20 := hide (show At4 w (x3.setCell ⟨sb, 5, none⟩ (.slice a' (nV + 1) c')) B sb X0 #[.int .i64 kd, .int .i64 da, .int .i64 db, .int .i64 dd] { s3 with vV := .slice a' (nV + 1) c', V := s3.V ++ [(⟨s.next, z, false, .slice (some ⟨xn, 0, none⟩) 200 200, .slice (some ⟨xh, 0, none⟩) 200 200⟩ : OpM)] } from ⟨A13.out.st.pushV g5 k4 (by rw [EE.out.2.2.2.2.2.1]; exact OK.out), box_two A13.out.dd k4 (ofty_row A13.out.st.v) (by decide) bx, below_two A13.out.bw k4 (fun z hz => (World.ownsRow.lt A13.out.st.v z hz).1) A13.out.st.hb HB.out, Nat.le_trans A13.out.up (Nat.le_trans k4.size (by simp))⟩)
          obtain ⟨y1, f1⟩ := (RBox.cells bx).get 5 _ rfl
          clear g5 k4 bx A13 R3 K4 G4 TY OK
          refine take_at 15 (some 51) (v := ?_) rfl rfl (by kernel_rfl) (by kernel_rfl) (by kernel_rfl) (fun _ _ _ h => h) ⟨by rfl, ?_⟩ hS ?_
          rotate_left
          · intro wq hSw; go_simp; try rfl
          simp only [Act.put, List.setIfInBounds_toArray, List.set_cons_zero, List.set_cons_succ]
          refine take_at 16 (some 52) (v := ?_) rfl rfl (by kernel_rfl) (by kernel_rfl) (by kernel_rfl) (fun _ _ _ h => h) ⟨by rfl, ?_⟩ hS ?_
          rotate_left
          · intro wq hSw; go_simp; try rfl
          simp only [Act.put, List.setIfInBounds_toArray, List.set_cons_zero, List.set_cons_succ]
          refine wpAnyH_ready (rs := [17]) (by kernel_rfl) (by simp) ?_
          refine AllReadyH.cons rfl (fun K hK => ?_) AllReadyH.nil
          go_simp
          (try go_wp2_with fail)
          refine hK.out _ _ (hS.set (by decide)) (fun hS => ?_)
          clear hK K
          (try simp only [Act.put, List.setIfInBounds_toArray, List.set_cons_zero, List.set_cons_succ])
          clear hS y1 f1
          refine wpAnyH_done (by kernel_rfl) ?_ _
          obtain ⟨q6, f6⟩ := (RBox.cells A20.out.st.box).get 6 _ rfl
          go_wp2_with fail
          first | go_ret | go_ret2
          have A21 := A20.out.st.setNext (wrap64 (s3.next + 1))
          refine ⟨⟨⟨_, rfl⟩⟩, ⟨_, A21, ⟨by (try simp only); have := EE.out.1; omega, by (try simp only); rw [EE.out.2.1]; omega, by simp only [List.length_append, List.length_singleton]; rw [EE.out.2.2.1]; have := NV.out; omega, ⟨by (try simp only); rw [EE.out.2.2.2.2.2.2.1, EE.out.2.2.2.2.2.2.2.1]; exact HL.out.gi, by (try simp only); rw [EE.out.2.1, EE.out.2.2.2.2.1]; exact HL.out.ls, by (try simp only); rw [EE.out.2.2.2.2.2.2.2.1]; exact HL.out.ig⟩⟩⟩, ?_⟩
          exact bkeep A20.out.bw ((Keep.refl (fun y => y = sb) _).setCell (g := sb) (j := 6) (fun _ => rfl) _) HB.out (fun y e => by rw [e]; exact A20.out.st.hb)
        · obtain ⟨u2, mk, gm, bm⟩ := make72 u1
          obtain ⟨xn, hx⟩ : ∃ y, y = u1.heap.size := ⟨_, rfl⟩
          rw [← hx] at mk
          have HX2 := hide hx
          clear hx
          go_simp
          (try go_wp2_with fail)
          refine hK.out _ _ (hS.below bm) (fun hS => ?_)
          clear hK K
          (try simp only [Act.put, List.setIfInBounds_toArray, List.set_cons_zero, List.set_cons_succ])
          have GN := hide (show GRow u2 B 2 1 (.slice (some ⟨xn, 0, none⟩) 200 200) 200 (intsV (List.replicate 200 0)) from GRow.mono (by rw [HX2.out]; exact gm) (by have := A11.out.up; have := HB.out; omega))
          have A12 := hide (A11.out.below bm (by have := A11.out.up; have := HB.out; omega))
          have XS := hide (show ∀ g, s.vS.ownBlock = some g → xn ≠ g from fun g hg e => by have := (World.ownsRow.lt A11.out.st.ss g (by rw [EE.out.2.2.2.2.2.1]; exact hg)).2; have := HX2.out; omega)
          have GH2 := hide (GH.out.below bm)
          clear GH
          have GH := hide GH2.out
          clear GH2
          clear A11 mk gm bm HX2
          refine take_at 12 (some 48) (v := ?_) rfl rfl (by kernel_rfl) (by kernel_rfl) (by kernel_rfl) (fun _ _ _ h => h) ⟨by rfl, ?_⟩ hS ?_
          rotate_left
          · intro wq hSw; go_simp; try rfl
          simp only [Act.put, List.setIfInBounds_toArray, List.set_cons_zero, List.set_cons_succ]
          refine wpAnyH_ready (rs := [4, 13]) (by kernel_rfl) (by simp) ?_
          refine AllReadyH.cons rfl (fun K hK => ?_) (AllReadyH.cons rfl (fun K hK => ?_) AllReadyH.nil)
          · have q5 := ((RBox.cells A12.out.st.box).get 5 _ rfl).1
            rw [EE.out.2.2.2.1, EV.out] at q5
            go_simp
            (try go_wp2_with fail)
            refine hK.out _ _ hS (fun hS => ?_)
            clear hK K
            (try simp only [Act.put, List.setIfInBounds_toArray, List.set_cons_zero, List.set_cons_succ])
            clear q5
            refine wpAnyH_ready (rs := [13]) (by kernel_rfl) (by simp) ?_
            refine AllReadyH.cons rfl (fun K hK => ?_) AllReadyH.nil
            refine wp_b71 (x := ⟨s.next, z, false, .slice (some ⟨xn, 0, none⟩) 200 200, .slice (some ⟨xh, 0, none⟩) 200 200⟩) rfl rfl ?_
            refine hK.out _ _ (hS.below (alloc_below _ _)) (fun hS => ?_)
            clear hK K
            (try simp only [Act.put, List.setIfInBounds_toArray, List.set_cons_zero, List.set_cons_succ])
            obtain ⟨u3, hu⟩ : ∃ y : World, y = u2.alloc (.cells (opA ⟨s.next, z, false, .slice (some ⟨xn, 0, none⟩) 200 200, .slice (some ⟨xh, 0, none⟩) 200 200⟩) 133) := ⟨_, rfl⟩
            obtain ⟨Y, hY⟩ : ∃ y, y = u2.heap.size := ⟨_, rfl⟩
            have bm : Below u2.heap.size u2 u3 := by rw [hu]; exact alloc_below _ _
            have LZ := hide (show Lies u3 (some ⟨Y, 0, none⟩) (rowsC opC [⟨s.next, z, false, .slice (some ⟨xn, 0, none⟩) 200 200, .slice (some ⟨xh, 0, none⟩) 200 200⟩]) by rw [hu, hY]; exact lies_cells2 u2 (opA ⟨s.next, z, false, .slice (some ⟨xn, 0, none⟩) 200 200, .slice (some ⟨xh, 0, none⟩) 200 200⟩) 133)
            have A13 := hide (A12.out.below bm (by have := A12.out.up; have := HB.out; omega))
            have OK := hide (show OpOk u3 B s.vS ⟨s.next, z, false, .slice (some ⟨xn, 0, none⟩) 200 200, .slice (some ⟨xh, 0, none⟩) 200 200⟩ from ⟨⟨_, ⟨by simp, fun x hx => by rw [List.eq_of_mem_replicate hx]; exact i64_0⟩, GN.out.below bm⟩, ⟨_, by simp, GH.out.below bm⟩, fun g hg e => by cases hg; exact XS.out _ e rfl⟩)
            rw [← hu] at hS
            rw [← hu, ← hY]
            clear hu hY bm A12 GN GH XS
            have g3 := A13.out.st.v
            rw [EE.out.2.2.2.1, EE.out.2.2.1, EV.out, ← NV.out] at g3
            obtain ⟨v', x3, r3, g4, q2, -⟩ := run_pushW Tryz.underlying71 info133 rfl (by decide) 71 u3 B _ nV _ g3 ⟨Y, 0, none⟩ 1 1 (rowsC opC [⟨s.next, z, false, .slice (some ⟨xn, 0, none⟩) 200 200, .slice (some ⟨xh, 0, none⟩) 200 200⟩]) rfl LZ.out (opC_one (B := B) (w := u3) (vS := s.vS) (fun o ho => by rw [List.mem_singleton] at ho; subst ho; exact OK.out)) (by omega) (by decide) (by have := A13.out.up; have := HB.out; omega)
            obtain ⟨a', c', rfl, -⟩ := GRow.lies g4
            have TY := hide (ofty_row g3)
            have K4 := hide (grown_keep q2)
            have G4 := hide g4
            have R3 := hide r3
            clear g3 g4 q2 r3 LZ
            refine wpAnyH_ready (rs := [14]) (by kernel_rfl) (by simp) ?_
            refine AllReadyH.cons rfl (fun K hK => ?_) AllReadyH.nil
            refine wp_run 50 (.tmp 40) (.tmp 49) rfl rfl rfl rfl rfl R3.out ?_
            refine hK.out _ _ (hS.keepT K4.out TY.out (by decide)) (fun hS => ?_)
            clear hK K
            (try simp only [Act.put, List.setIfInBounds_toArray, List.set_cons_zero, List.set_cons_succ])
            have g5 : GRow x3 B 133 5 (.slice a' (nV + 1) c') (s3.V ++ [(⟨s.next, z, false, .slice (some ⟨xn, 0, none⟩) 200 200, .slice (some ⟨xh, 0, none⟩) 200 200⟩ : OpM)]).length (rowsC opC (s3.V ++ [(⟨s.next, z, false, .slice (some ⟨xn, 0, none⟩) 200 200, .slice (some ⟨xh, 0, none⟩) 200 200⟩ : OpM)])) := by rw [rowsC_app, List.length_append, EE.out.2.2.1, ← NV.out]; exact G4.out
            have k4 := K4.out
            rw [← EV.out, ← EE.out.2.2.2.1] at k4
            have bx := RBox.keepT A13.out.st.box k4 (ofty_row A13.out.st.v) (by decide)
            have A20 := hide (show At4 w (x3.setCell ⟨sb, 5, none⟩ (.slice a' (nV + 1) c')) B sb X0 #[.int .i64 kd, .int .i64 da, .int .i64 db, .int .i64 dd] { s3 with vV := .slice a' (nV + 1) c', V := s3.V ++ [(⟨s.next, z, false, .slice (some ⟨xn, 0, none⟩) 200 200, .slice (some ⟨xh, 0, none⟩) 200 200⟩ : OpM)] } from ⟨A13.out.st.pushV g5 k4 (by rw [EE.out.2.2.2.2.2.1]; exact OK.out), box_two A13.out.dd k4 (ofty_row A13.out.st.v) (by decide) bx, below_two A13.out.bw k4 (fun z hz => (World.ownsRow.lt A13.out.st.v z hz).1) A13.out.st.hb HB.out, Nat.le_trans A13.out.up (Nat.le_trans k4.size (by simp))⟩)
            obtain ⟨y1, f1⟩ := (RBox.cells bx).get 5 _ rfl
            clear g5 k4 bx A13 R3 K4 G4 TY OK
            refine take_at 15 (some 51) (v := ?_) rfl rfl (by kernel_rfl) (by kernel_rfl) (by kernel_rfl) (fun _ _ _ h => h) ⟨by rfl, ?_⟩ hS ?_
            rotate_left
            · intro wq hSw; go_simp; try rfl
            simp only [Act.put, List.setIfInBounds_toArray, List.set_cons_zero, List.set_cons_succ]
            refine take_at 16 (some 52) (v := ?_) rfl rfl (by kernel_rfl) (by kernel_rfl) (by kernel_rfl) (fun _ _ _ h => h) ⟨by rfl, ?_⟩ hS ?_
            rotate_left
            · intro wq hSw; go_simp; try rfl
            simp only [Act.put, List.setIfInBounds_toArray, List.set_cons_zero, List.set_cons_succ]
            refine wpAnyH_ready (rs := [17]) (by kernel_rfl) (by simp) ?_
            refine AllReadyH.cons rfl (fun K hK => ?_) AllReadyH.nil
            go_simp
            (try go_wp2_with fail)
            refine hK.out _ _ (hS.set (by decide)) (fun hS => ?_)
            clear hK K
            (try simp only [Act.put, List.setIfInBounds_toArray, List.set_cons_zero, List.set_cons_succ])
            clear hS y1 f1
            refine wpAnyH_done (by kernel_rfl) ?_ _
            obtain ⟨q6, f6⟩ := (RBox.cells A20.out.st.box).get 6 _ rfl
            go_wp2_with fail
            first | go_ret | go_ret2
            have A21 := A20.out.st.setNext (wrap64 (s3.next + 1))
            refine ⟨⟨⟨_, rfl⟩⟩, ⟨_, A21, ⟨by (try simp only); have := EE.out.1; omega, by (try simp only); rw [EE.out.2.1]; omega, by simp only [List.length_append, List.length_singleton]; rw [EE.out.2.2.1]; have := NV.out; omega, ⟨by (try simp only); rw [EE.out.2.2.2.2.2.2.1, EE.out.2.2.2.2.2.2.2.1]; exact HL.out.gi, by (try simp only); rw [EE.out.2.1, EE.out.2.2.2.2.1]; exact HL.out.ls, by (try simp only); rw [EE.out.2.2.2.2.2.2.2.1]; exact HL.out.ig⟩⟩⟩, ?_⟩
            exact bkeep A20.out.bw ((Keep.refl (fun y => y = sb) _).setCell (g := sb) (j := 6) (fun _ => rfl) _) HB.out (fun y e => by rw [e]; exact A20.out.st.hb)
          · refine wp_b71 (x := ⟨s.next, z, false, .slice (some ⟨xn, 0, none⟩) 200 200, .slice (some ⟨xh, 0, none⟩) 200 200⟩) rfl rfl ?_
            refine hK.out _ _ (hS.below (alloc_below _ _)) (fun hS => ?_)
            clear hK K
            (try simp only [Act.put, List.setIfInBounds_toArray, List.set_cons_zero, List.set_cons_succ])
            obtain ⟨u3, hu⟩ : ∃ y : World, y = u2.alloc (.cells (opA ⟨s.next, z, false, .slice (some ⟨xn, 0, none⟩) 200 200, .slice (some ⟨xh, 0, none⟩) 200 200⟩) 133) := ⟨_, rfl⟩
            obtain ⟨Y, hY⟩ : ∃ y, y = u2.heap.size := ⟨_, rfl⟩
            have bm : Below u2.heap.size u2 u3 := by rw [hu]; exact alloc_below _ _
            have LZ := hide (show Lies u3 (some ⟨Y, 0, none⟩) (rowsC opC [⟨s.next, z, false, .slice (some ⟨xn, 0, none⟩) 200 200, .slice (some ⟨xh, 0, none⟩) 200 200⟩]) by rw [hu, hY]; exact lies_cells2 u2 (opA ⟨s.next, z, false, .slice (some ⟨xn, 0, none⟩) 200 200, .slice (some ⟨xh, 0, none⟩) 200 200⟩) 133)
            have A13 := hide (A12.out.below bm (by have := A12.out.up; have := HB.out; omega))
            have OK := hide (show OpOk u3 B s.vS ⟨s.next, z, false, .slice (some ⟨xn, 0, none⟩) 200 200, .slice (some ⟨xh, 0, none⟩) 200 200⟩ from ⟨⟨_, ⟨by simp, fun x hx => by rw [List.eq_of_mem_replicate hx]; exact i64_0⟩, GN.out.below bm⟩, ⟨_, by simp, GH.out.below bm⟩, fun g hg e => by cases hg; exact XS.out _ e rfl⟩)
            rw [← hu] at hS
            rw [← hu, ← hY]
            clear hu hY bm A12 GN GH XS
            refine wpAnyH_ready (rs := [4]) (by kernel_rfl) (by simp) ?_
            refine AllReadyH.cons rfl (fun K hK => ?_) AllReadyH.nil
            have q5 := ((RBox.cells A13.out.st.box).get 5 _ rfl).1
            rw [EE.out.2.2.2.1, EV.out] at q5
            go_simp
            (try go_wp2_with fail)
            refine hK.out _ _ hS (fun hS => ?_)
            clear hK K
            (try simp only [Act.put, List.setIfInBounds_toArray, List.set_cons_zero, List.set_cons_succ])
            clear q5
            have g3 := A13.out.st.v
            rw [EE.out.2.2.2.1, EE.out.2.2.1, EV.out, ← NV.out] at g3
            obtain ⟨v', x3, r3, g4, q2, -⟩ := run_pushW Tryz.underlying71 info133 rfl (by decide) 71 u3 B _ nV _ g3 ⟨Y, 0, none⟩ 1 1 (rowsC opC [⟨s.next, z, false, .slice (some ⟨xn, 0, none⟩) 200 200, .slice (some ⟨xh, 0, none⟩) 200 200⟩]) rfl LZ.out (opC_one (B := B) (w := u3) (vS := s.vS) (fun o ho => by rw [List.mem_singleton] at ho; subst ho; exact OK.out)) (by omega) (by decide) (by have := A13.out.up; have := HB.out; omega)
            obtain ⟨a', c', rfl, -⟩ := GRow.lies g4
            have TY := hide (ofty_row g3)
            have K4 := hide (grown_keep q2)
            have G4 := hide g4
            have R3 := hide r3
            clear g3 g4 q2 r3 LZ
            refine wpAnyH_ready (rs := [14]) (by kernel_rfl) (by simp) ?_
            refine AllReadyH.cons rfl (fun K hK => ?_) AllReadyH.nil
            refine wp_run 50 (.tmp 40) (.tmp 49) rfl rfl rfl rfl rfl R3.out ?_
            refine hK.out _ _ (hS.keepT K4.out TY.out (by decide)) (fun hS => ?_)
            clear hK K
            (try simp only [Act.put, List.setIfInBounds_toArray, List.set_cons_zero, List.set_cons_succ])
            have g5 : GRow x3 B 133 5 (.slice a' (nV + 1) c') (s3.V ++ [(⟨s.next, z, false, .slice (some ⟨xn, 0, none⟩) 200 200, .slice (some ⟨xh, 0, none⟩) 200 200⟩ : OpM)]).length (rowsC opC (s3.V ++ [(⟨s.next, z, false, .slice (some ⟨xn, 0, none⟩) 200 200, .slice (some ⟨xh, 0, none⟩) 200 200⟩ : OpM)])) := by rw [rowsC_app, List.length_append, EE.out.2.2.1, ← NV.out]; exact G4.out
            have k4 := K4.out
            rw [← EV.out, ← EE.out.2.2.2.1] at k4
            have bx := RBox.keepT A13.out.st.box k4 (ofty_row A13.out.st.v) (by decide)
            have A20 := hide (show At4 w (x3.setCell ⟨sb, 5, none⟩ (.slice a' (nV + 1) c')) B sb X0 #[.int .i64 kd, .int .i64 da, .int .i64 db, .int .i64 dd] { s3 with vV := .slice a' (nV + 1) c', V := s3.V ++ [(⟨s.next, z, false, .slice (some ⟨xn, 0, none⟩) 200 200, .slice (some ⟨xh, 0, none⟩) 200 200⟩ : OpM)] } from ⟨A13.out.st.pushV g5 k4 (by rw [EE.out.2.2.2.2.2.1]; exact OK.out), box_two A13.out.dd k4 (ofty_row A13.out.st.v) (by decide) bx, below_two A13.out.bw k4 (fun z hz => (World.ownsRow.lt A13.out.st.v z hz).1) A13.out.st.hb HB.out, Nat.le_trans A13.out.up (Nat.le_trans k4.size (by simp))⟩)
            obtain ⟨y1, f1⟩ := (RBox.cells bx).get 5 _ rfl
            clear g5 k4 bx A13 R3 K4 G4 TY OK
            refine take_at 15 (some 51) (v := ?_) rfl rfl (by kernel_rfl) (by kernel_rfl) (by kernel_rfl) (fun _ _ _ h => h) ⟨by rfl, ?_⟩ hS ?_
            rotate_left
            · intro wq hSw; go_simp; try rfl
            simp only [Act.put, List.setIfInBounds_toArray, List.set_cons_zero, List.set_cons_succ]
            refine take_at 16 (some 52) (v := ?_) rfl rfl (by kernel_rfl) (by kernel_rfl) (by kernel_rfl) (fun _ _ _ h => h) ⟨by rfl, ?_⟩ hS ?_
            rotate_left
            · intro wq hSw; go_simp; try rfl
            simp only [Act.put, List.setIfInBounds_toArray, List.set_cons_zero, List.set_cons_succ]
            refine wpAnyH_ready (rs := [17]) (by kernel_rfl) (by simp) ?_
            refine AllReadyH.cons rfl (fun K hK => ?_) AllReadyH.nil
            go_simp
            (try go_wp2_with fail)
            refine hK.out _ _ (hS.set (by decide)) (fun hS => ?_)
            clear hK K
            (try simp only [Act.put, List.setIfInBounds_toArray, List.set_cons_zero, List.set_cons_succ])
            clear hS y1 f1
            refine wpAnyH_done (by kernel_rfl) ?_ _
            obtain ⟨q6, f6⟩ := (RBox.cells A20.out.st.box).get 6 _ rfl
            go_wp2_with fail
            first | go_ret | go_ret2
            have A21 := A20.out.st.setNext (wrap64 (s3.next + 1))
            refine ⟨⟨⟨_, rfl⟩⟩, ⟨_, A21, ⟨by (try simp only); have := EE.out.1; omega, by (try simp only); rw [EE.out.2.1]; omega, by simp only [List.length_append, List.length_singleton]; rw [EE.out.2.2.1]; have := NV.out; omega, ⟨by (try simp only); rw [EE.out.2.2.2.2.2.2.1, EE.out.2.2.2.2.2.2.2.1]; exact HL.out.gi, by (try simp only); rw [EE.out.2.1, EE.out.2.2.2.2.1]; exact HL.out.ls, by (try simp only); rw [EE.out.2.2.2.2.2.2.2.1]; exact HL.out.ig⟩⟩⟩, ?_⟩
            exact bkeep A20.out.bw ((Keep.refl (fun y => y = sb) _).setCell (g := sb) (j := 6) (fun _ => rfl) _) HB.out (fun y e => by rw [e]; exact A20.out.st.hb)
    · have f3 : decide ((nV : Int) < 20) = false := decide_eq_false (by omega)
      go_wp2_with fail
      first | go_ret | go_ret2
      exact ⟨⟨⟨_, rfl⟩⟩, ⟨s, A1.out.st, ⟨by omega, by omega, by have := NV.out; omega, HL.out⟩⟩, A1.out.bw⟩
  have f1 : decide ((k : Int) < 2) = false := decide_eq_false (by omega)
  have f2 : decide ((k : Int) < 4) = false := decide_eq_false (by omega)
  have q5 := ((RBox.cells A1.out.st.box).get 5 _ rfl).1
  rw [EV.out] at q5
  by_cases hv0 : nV = 0
  · subst hv0
    have f3 : decide (((0 : Nat) : Int) = 0) = true := rfl
    have f3b : (((0 : Nat) : Int) == 0) = true := rfl
    go_wp2_with fail
    first | go_ret | go_ret2
    exact ⟨⟨⟨_, rfl⟩⟩, ⟨s, A1.out.st, ⟨by omega, by omega, by have := NV.out; omega, HL.out⟩⟩, A1.out.bw⟩
  have f3 : decide ((nV : Int) = 0) = false := decide_eq_false (by omega)
  have f3b : ((nV : Int) == 0) = false := by simp; omega
  go_upto_region 13 with fail
  refine wp_region_held_drew (S := fun wq => RBox wq X0 102 #[.int .i64 kd, .int .i64 da, .int .i64 db, .int .i64 dd] ∧ wq.cell? ⟨sb, 5, none⟩ = some (.slice aV nV cV)) (by kernel_rfl) ⟨RBox.below A1.out.dd (Below.refl _ _).drew, by rw [← q5]; rfl⟩ (fun hS => ?_)
  have A2 := hide (A1.out.below (Below.refl _ _).drew (by have := A1.out.up; omega))
  clear A1 q5 f1 f2 f3 f3b
  generalize w1.drew = we at *
  refine take_at 0 (some 66) (v := ?_) rfl rfl (by kernel_rfl) (by kernel_rfl) (by kernel_rfl) (fun _ _ _ h => h) ⟨by rfl, ?_⟩ hS ?_
  rotate_left
  · intro wq hSw; go_simp; try rfl
  simp only [Act.put, List.setIfInBounds_toArray, List.set_cons_zero, List.set_cons_succ]
  refine take_at 1 (some 67) (v := ?_) rfl rfl (by kernel_rfl) (by kernel_rfl) (by kernel_rfl) (fun _ _ _ h => h) ⟨by rfl, ?_⟩ hS ?_
  rotate_left
  · intro wq hSw; have z1 := ((RBox.cells hSw.1).get 1 _ rfl).1; go_simp; try rfl
  simp only [Act.put, List.setIfInBounds_toArray, List.set_cons_zero, List.set_cons_succ]
  refine take_at 2 (some 68) (v := ?_) rfl rfl (by kernel_rfl) (by kernel_rfl) (by kernel_rfl) (fun _ _ _ h => h) ⟨by rfl, ?_⟩ hS ?_
  rotate_left
  · intro wq hSw; go_simp; try rfl
  simp only [Act.put, List.setIfInBounds_toArray, List.set_cons_zero, List.set_cons_succ]
  refine take_at 3 (some 69) (v := ?_) rfl rfl (by kernel_rfl) (by kernel_rfl) (by kernel_rfl) (fun _ _ _ h => h) ⟨by rfl, ?_⟩ hS ?_
  rotate_left
  · intro wq hSw; go_simp; try rfl
  simp only [Act.put, List.setIfInBounds_toArray, List.set_cons_zero, List.set_cons_succ]
  refine take_at 4 (some 70) (v := ?_) rfl rfl (by kernel_rfl) (by kernel_rfl) (by kernel_rfl) (fun _ _ _ h => h) ⟨by rfl, ?_⟩ hS ?_
  rotate_left
  · intro wq hSw; go_simp; try rfl
  simp only [Act.put, List.setIfInBounds_toArray, List.set_cons_zero, List.set_cons_succ]
  refine take_at 5 (some 71) (v := ?_) rfl rfl (by kernel_rfl) (by kernel_rfl) (by kernel_rfl) (fun _ _ _ h => h) ⟨by rfl, ?_⟩ hS ?_
  rotate_left
  · intro wq hSw; have z5 := hSw.2; go_simp; try rfl
  simp only [Act.put, List.setIfInBounds_toArray, List.set_cons_zero, List.set_cons_succ]
  refine take_at 6 (some 72) (v := ?_) rfl rfl (by kernel_rfl) (by kernel_rfl) (by kernel_rfl) (fun _ _ _ h => h) ⟨by rfl, ?_⟩ hS ?_
  rotate_left
  · intro wq hSw; go_simp; try rfl
  simp only [Act.put, List.setIfInBounds_toArray, List.set_cons_zero, List.set_cons_succ]
  refine wpAnyH_ready (rs := [7]) (by kernel_rfl) (by simp) ?_
  refine AllReadyH.cons rfl (fun K hK => ?_) AllReadyH.nil
  go_simp
  go_wp2_with fail
  refine (brought52_any da nV _ ia (by omega) (by omega)).mono ?_
  rintro e y1 ⟨t, rfl, ht, rfl⟩
  go_wp2_with fail
  refine hK.out _ _ hS (fun hS => ?_)
  clear hK K
  (try simp only [Act.put, List.setIfInBounds_toArray, List.set_cons_zero, List.set_cons_succ])
  refine take_at 8 (some 7) (v := ?_) rfl rfl (by kernel_rfl) (by kernel_rfl) (by kernel_rfl) (fun _ _ _ h => h) ⟨by rfl, ?_⟩ hS ?_
  rotate_left
  · intro wq hSw; go_simp; try rfl
  simp only [Act.put, List.setIfInBounds_toArray, List.set_cons_zero, List.set_cons_succ]
  clear hS
  refine wpAnyH_done (by kernel_rfl) ?_ _
  have htV : t < s.V.length := by have := NV.out; omega
  obtain ⟨gV, cV2, eV2, hOP⟩ := A2.out.st.openAt htV
  rw [EV.out, ← NV.out] at eV2
  injection eV2 with i1 i2 i3
  subst i1
  subst i3
  obtain ⟨op, hop⟩ : ∃ z, z = s.V[t] := ⟨_, rfl⟩
  rw [← hop] at hOP
  have HOP := hide hop
  have OPC := hide hOP
  obtain ⟨gN, cN, gH, cH, eN, eH, -⟩ := A2.out.st.netsAt htV
  rw [← hop] at eN eH
  have EN := hide eN
  have EH := hide eH
  obtain ⟨AO, hAO⟩ : ∃ z, z = opA op := ⟨_, rfl⟩
  rw [← hAO] at OPC
  have SO := hide (show AO.size = 5 by rw [hAO]; rfl)
  have ONE := hide (show AO.toList.all (·.oneCell') = true by rw [hAO]; simp [eN, eH, Value.oneCell'])
  have HAO := hide hAO
  have q5 := ((RBox.cells A2.out.st.box).get 5 _ rfl).1
  rw [EV.out] at q5
  have ft : (t : Int) < (nV : Int) := by omega
  clear hOP hop eN eH hAO
  go_upto_region 15 with (first
    | refine wpList_ldG Tryz.underlying133 rfl (by rw [SO.out]; exact size133) (OPC.out _ (Below.refl _ _)) rfl ?_
    | (refine wpList_stG (cs' := AO) (by rw [SO.out]; exact size133) (RBox.new _ _ _) (by rw [SO.out]; rfl) ONE.out rfl rfl ?_; intro w3 rb3 k3; have RB3 := hide rb3; have B3 := hide (newBox k3); clear rb3 k3)
    | fail)
  obtain ⟨X8, hX8⟩ : ∃ z, z = we.heap.size := ⟨_, rfl⟩
  rw [← hX8] at RB3 ⊢
  have W8 := hide (show At8 w w3 B sb X0 #[.int .i64 kd, .int .i64 da, .int .i64 db, .int .i64 dd] s X8 gV op t nV cV gN cN gH cH from ⟨A2.out.below B3.out (by have := A2.out.up; omega), by rw [← HAO.out]; exact RB3.out, fun e => by
      have := (World.ownsRow.lt A2.out.st.v gV (by rw [EV.out]; rfl)).2
      omega, EV.out, NV.out, ht, fun _ => by rw [HOP.out]; exact ⟨rfl, rfl⟩, EN.out, EH.out⟩)
  clear hX8 RB3 B3 A2 OPC SO ONE HAO q5 ft EN EH HOP EV htV
  have o2 := ((RBox.cells W8.out.o).get 2 _ rfl).1
  obtain ⟨cm, hcm⟩ : ∃ z, z = op.com := ⟨_, rfl⟩
  rw [← hcm] at o2
  have HCM := hide hcm
  clear hcm
  cases cm
  · by_cases h8 : k = 8
    · have f8 : decide ((k : Int) = 8) = true := decide_eq_true (by omega)
      have f8b : ((k : Int) == 8) = true := by simp; omega
      go_upto_region 19 with fail
      have q5 := W8.out.q5
      refine wp_region_held_drew (S := fun wq => wq.cell? ⟨sb, 5, none⟩ = some (.slice (some ⟨gV, 0, none⟩) nV cV) ∧ RBox wq X8 133 (opA op)) (by kernel_rfl) ⟨by rw [← q5]; rfl, RBox.below W8.out.o (Below.refl _ _).drew⟩ (fun hS => ?_)
      clear q5
      have W9 := hide (W8.out.below (Below.refl _ _).drew HB.out)
      clear W8
      generalize w3.drew = wf at *
      refine take_at 0 (some 97) (v := ?_) rfl rfl (by kernel_rfl) (by kernel_rfl) (by kernel_rfl) (fun _ _ _ h => h) ⟨by rfl, ?_⟩ hS ?_
      rotate_left
      · intro wq hSw; go_simp; try rfl
      simp only [Act.put, List.setIfInBounds_toArray, List.set_cons_zero, List.set_cons_succ]
      refine take_at 1 (some 98) (v := ?_) rfl rfl (by kernel_rfl) (by kernel_rfl) (by kernel_rfl) (fun _ _ _ h => h) ⟨by rfl, ?_⟩ hS ?_
      rotate_left
      · intro wq hSw; go_simp; try rfl
      simp only [Act.put, List.setIfInBounds_toArray, List.set_cons_zero, List.set_cons_succ]
      refine take_at 2 (some 99) (v := ?_) rfl rfl (by kernel_rfl) (by kernel_rfl) (by kernel_rfl) (fun _ _ _ h => h) ⟨by rfl, ?_⟩ hS ?_
      rotate_left
      · intro wq hSw; go_simp; try rfl
      simp only [Act.put, List.setIfInBounds_toArray, List.set_cons_zero, List.set_cons_succ]
      refine take_at 3 (some 100) (v := ?_) rfl rfl (by kernel_rfl) (by kernel_rfl) (by kernel_rfl) (fun _ _ _ h => h) ⟨by rfl, ?_⟩ hS ?_
      rotate_left
      · intro wq hSw; have s5 := hSw.1; go_simp; try rfl
      simp only [Act.put, List.setIfInBounds_toArray, List.set_cons_zero, List.set_cons_succ]
      refine take_at 4 (some 101) (v := ?_) rfl rfl (by kernel_rfl) (by kernel_rfl) (by kernel_rfl) (fun _ _ _ h => h) ⟨by rfl, ?_⟩ hS ?_
      rotate_left
      · intro wq hSw; go_simp; try rfl
      simp only [Act.put, List.setIfInBounds_toArray, List.set_cons_zero, List.set_cons_succ]
      refine take_at 5 (some 102) (v := ?_) rfl rfl (by kernel_rfl) (by kernel_rfl) (by kernel_rfl) (fun _ _ _ h => h) ⟨by rfl, ?_⟩ hS ?_
      rotate_left
      · intro wq hSw; go_simp; try rfl
      simp only [Act.put, List.setIfInBounds_toArray, List.set_cons_zero, List.set_cons_succ]
      refine take_at 6 (some 103) (v := ?_) rfl rfl (by kernel_rfl) (by kernel_rfl) (by kernel_rfl) (fun _ _ _ h => h) ⟨by rfl, ?_⟩ hS ?_
      rotate_left
      · intro wq hSw; go_simp; try rfl
      simp only [Act.put, List.setIfInBounds_toArray, List.set_cons_zero, List.set_cons_succ]
      refine take_at 7 (some 104) (v := ?_) rfl rfl (by kernel_rfl) (by kernel_rfl) (by kernel_rfl) (fun _ _ _ h => h) ⟨by rfl, ?_⟩ hS ?_
      rotate_left
      · intro wq hSw; have o0 := ((RBox.cells hSw.2).get 0 _ rfl).1; go_simp; try rfl
      simp only [Act.put, List.setIfInBounds_toArray, List.set_cons_zero, List.set_cons_succ]
      refine take_at 8 (some 105) (v := ?_) rfl rfl (by kernel_rfl) (by kernel_rfl) (by kernel_rfl) (fun _ _ _ h => h) ⟨by rfl, ?_⟩ hS ?_
      rotate_left
      · intro wq hSw; go_simp; try rfl
      simp only [Act.put, List.setIfInBounds_toArray, List.set_cons_zero, List.set_cons_succ]
      refine take_at 9 (some 106) (v := ?_) rfl rfl (by kernel_rfl) (by kernel_rfl) (by kernel_rfl) (fun _ _ _ h => h) ⟨by rfl, ?_⟩ hS ?_
      rotate_left
      · intro wq hSw; have o1 := ((RBox.cells hSw.2).get 1 _ rfl).1; go_simp; try rfl
      simp only [Act.put, List.setIfInBounds_toArray, List.set_cons_zero, List.set_cons_succ]
      refine take_at 10 (some 107) (v := ?_) rfl rfl (by kernel_rfl) (by kernel_rfl) (by kernel_rfl) (fun _ _ _ h => h) ⟨by rfl, ?_⟩ hS ?_
      rotate_left
      · intro wq hSw; go_simp; try rfl
      simp only [Act.put, List.setIfInBounds_toArray, List.set_cons_zero, List.set_cons_succ]
      refine wpAnyH_ready (rs := [11]) (by kernel_rfl) (by simp) ?_
      refine AllReadyH.cons rfl (fun K hK => ?_) AllReadyH.nil
      go_simp
      go_wp2_with fail
      refine (writes_any W9.out.a.st ⟨0, 5, op.tx, op.last, 0, 0, 0, 0, 0, 0, 0, 0, 0, 0, none, 0, 0, none, 0, 0, 0⟩ ⟨i64_0, i64_0⟩ (by omega) (by have := W9.out.a.up; have := HB.out; omega)).mono ?_
      rintro e w4 ⟨z, vR', rfl, h3, k3⟩
      obtain ⟨s4, hs4⟩ : ∃ y : SV, y = { s with vR := vR', R := s.R ++ [numd ⟨0, 5, op.tx, op.last, 0, 0, 0, 0, 0, 0, 0, 0, 0, 0, none, 0, 0, none, 0, 0, 0⟩ z] } := ⟨_, rfl⟩
      rw [← hs4] at h3
      have WA := hide (W9.out.wrote HB.out h3 k3 (by rw [hs4]) (by rw [hs4]))
      have EE := hide (show s4.R.length = s.R.length + 1 ∧ s4.P = s.P ∧ s4.V.length = s.V.length ∧ s4.G = s.G ∧ s4.I = s.I ∧ s4.S = s.S by rw [hs4]; exact ⟨by simp, rfl, rfl, rfl, rfl, rfl⟩)
      clear h3 k3 hs4 W9
      go_wp2_with fail
      refine hK.out _ _ ⟨WA.out.q5, WA.out.o⟩ (fun hS => ?_)
      clear hK K
      (try simp only [Act.put, List.setIfInBounds_toArray, List.set_cons_zero, List.set_cons_succ])
      refine take_at 12 (some 109) (v := ?_) rfl rfl (by kernel_rfl) (by kernel_rfl) (by kernel_rfl) (fun _ _ _ h => h) ⟨by rfl, ?_⟩ hS ?_
      rotate_left
      · intro wq hSw; go_simp; try rfl
      simp only [Act.put, List.setIfInBounds_toArray, List.set_cons_zero, List.set_cons_succ]
      refine take_at 13 (some 110) (v := ?_) rfl rfl (by kernel_rfl) (by kernel_rfl) (by kernel_rfl) (fun _ _ _ h => h) ⟨by rfl, ?_⟩ hS ?_
      rotate_left
      · intro wq hSw; go_simp; try rfl
      simp only [Act.put, List.setIfInBounds_toArray, List.set_cons_zero, List.set_cons_succ]
      obtain ⟨y1, f1⟩ := WA.out.cellV (j := 1) rfl
      refine wpAnyH_ready (rs := [14]) (by kernel_rfl) (by simp) ?_
      refine AllReadyH.cons rfl (fun K hK => ?_) AllReadyH.nil
      go_simp
      (try go_wp2_with fail)
      have WB := hide (WA.out.setOpen HB.out (j := 1) (u := .int .i64 z) (o' := { s4.V[t]'WA.out.lt with last := z }) rfl (by decide) rfl rfl)
      refine hK.out _ _ ⟨WB.out.q5, WB.out.o⟩ (fun hS => ?_)
      clear hK K
      (try simp only [Act.put, List.setIfInBounds_toArray, List.set_cons_zero, List.set_cons_succ])
      clear hS y1 f1
      refine wpAnyH_done (by kernel_rfl) ?_ _
      obtain ⟨s5, hs5⟩ : ∃ y : SV, y = { s4 with V := s4.V.set t { s4.V[t]'WA.out.lt with last := z } } := ⟨_, rfl⟩
      rw [← hs5] at WB
      have E5 := hide (show s5.R.length = s.R.length + 1 ∧ s5.P = s.P ∧ s5.V.length = s.V.length ∧ s5.G = s.G ∧ s5.I = s.I ∧ s5.S = s.S by rw [hs5]; obtain ⟨e1, e2, e3, e4, e5, e6⟩ := EE.out; exact ⟨e1, e2, by simp [e3], e4, e5, e6⟩)
      clear hs5 EE WA
      obtain ⟨w5, hw5⟩ : ∃ y : World, y = w4.setCell ⟨gV, t * 5 + 1, none⟩ (.int .i64 z) := ⟨_, rfl⟩
      rw [← hw5] at WB ⊢
      clear hw5
      have q5 := WB.out.q5
      obtain ⟨y2, f2⟩ := WB.out.cellV (j := 2) rfl
      have ft : (t : Int) < (nV : Int) := by have := WB.out.tl; omega
      go_upto_region 21 with fail
      have WC := hide (WB.out.setOpen HB.out (j := 2) (u := .bool true) (o' := { s5.V[t]'WB.out.lt with com := true }) rfl (by decide) rfl rfl)
      obtain ⟨s6, hs6⟩ : ∃ y : SV, y = { s5 with V := s5.V.set t { s5.V[t]'WB.out.lt with com := true } } := ⟨_, rfl⟩
      rw [← hs6] at WC
      have E6 := hide (show s6.R.length = s.R.length + 1 ∧ s6.P = s.P ∧ s6.V.length = s.V.length ∧ s6.G = s.G ∧ s6.I = s.I ∧ s6.S = s.S by rw [hs6]; obtain ⟨e1, e2, e3, e4, e5, e6⟩ := E5.out; exact ⟨e1, e2, by simp [e3], e4, e5, e6⟩)
      clear hs6 E5 WB q5 y2 f2
      obtain ⟨w6, hw6⟩ : ∃ y : World, y = w5.setCell ⟨gV, t * 5 + 2, none⟩ (.bool true) := ⟨_, rfl⟩
      rw [← hw6] at WC ⊢
      clear hw6
      obtain ⟨nL, hnL⟩ : ∃ z, z = s.P.length := ⟨_, rfl⟩
      have NL := hide hnL
      clear hnL
      have hnL1 : nL ≤ 60 := by rw [NL.out]; exact hP
      go_wp2_with fail
      go_loopw [9] (fun v wz => ∃ (i : Nat) (l : List Int), v = .int .i64 (i : Int) ∧ i ≤ nL ∧ l.length = nL ∧ At8 w wz B sb X0 #[.int .i64 kd, .int .i64 da, .int .i64 db, .int .i64 dd] { s6 with S := l } X8 gV op t nV cV gN cN gH cH) (fun v _ => nL + 1 - (intOf v).toNat)
      case atStart => exact ⟨0, s6.S, rfl, Nat.zero_le _, by rw [E6.out.2.2.2.2.2, NL.out, HL.out.ls], WC.out⟩
      case round =>
        obtain ⟨i, l, rfl, hi, hll, hw⟩ := hrel
        have WD := hide hw
        clear hw
        obtain ⟨aL, cL, eL, -⟩ := GRow.lies WD.out.a.st.l
        simp only [E6.out.2.1] at eL
        rw [← NL.out] at eL
        have q2 := ((RBox.cells WD.out.a.st.box).get 2 _ rfl).1
        simp only at q2
        rw [eL] at q2
        clear eL
        by_cases hlt : i < nL
        · have g1 : decide ((i : Int) < (nL : Int)) = true := decide_eq_true (by omega)
          have g2 : (i : Int) < (nL : Int) := by omega
          have g3 : (i : Int) < 200 := by omega
          go_upto_region 24 with fail
          clear q2
          obtain ⟨gS, cS, eS, hgS, tS, yS, fS⟩ := WD.out.a.st.setAt (i := i) (by show i < l.length; omega)
          simp only at eS yS
          rw [hll] at eS
          obtain ⟨sv, hsv⟩ : ∃ z, z = l[i] := ⟨_, rfl⟩
          rw [← hsv] at yS
          clear hsv
          obtain ⟨tN, -, nNS, -, -, rdN, -, -, -⟩ := WD.out.reads
          obtain ⟨zn, izn, yN⟩ := rdN i (by omega)
          clear rdN
          have q7 := ((RBox.cells WD.out.a.st.box).get 7 _ rfl).1
          simp only at q7
          rw [eS] at q7
          have nNS2 : gN ≠ gS := fun e => nNS (by (try simp only); rw [eS, e]; rfl)
          refine wp_region_held_drew (S := fun wq => wq.cell? ⟨sb, 7, none⟩ = some (.slice (some ⟨gS, 0, none⟩) nL cS) ∧ RBox wq X8 133 (opA op) ∧ wq.cell? ⟨gN, i, none⟩ = some (.int .i64 zn)) (by kernel_rfl) ⟨by rw [← q7]; rfl, RBox.below WD.out.o (Below.refl _ _).drew, by rw [← yN]; rfl⟩ (fun hS => ?_)
          have WE := hide (WD.out.below (Below.refl _ _).drew HB.out)
          have yS2 : wr.drew.cell? ⟨gS, i, none⟩ = some (.int .i64 sv) := by rw [← yS]; rfl
          have fS2 : wr.drew.frozen? ⟨gS, i, none⟩ = false := by rw [← fS]; rfl
          have tS2 : ∃ cur, wr.drew.heap[gS]? = some (.cells cur 2 (0, 0)) := tS
          clear WD yS fS tS q7 yN tN nNS g1
          generalize wr.drew = we2 at *
          have ENN := hide WE.out.en
          refine take_at 0 (some 127) (v := ?_) rfl rfl (by kernel_rfl) (by kernel_rfl) (by kernel_rfl) (fun _ _ _ h => h) ⟨by rfl, ?_⟩ hS ?_
          rotate_left
          · intro wq hSw; go_simp; try rfl
          simp only [Act.put, List.setIfInBounds_toArray, List.set_cons_zero, List.set_cons_succ]
          refine take_at 1 (some 128) (v := ?_) rfl rfl (by kernel_rfl) (by kernel_rfl) (by kernel_rfl) (fun _ _ _ h => h) ⟨by rfl, ?_⟩ hS ?_
          rotate_left
          · intro wq hSw; go_simp; try rfl
          simp only [Act.put, List.setIfInBounds_toArray, List.set_cons_zero, List.set_cons_succ]
          refine take_at 2 (some 129) (v := ?_) rfl rfl (by kernel_rfl) (by kernel_rfl) (by kernel_rfl) (fun _ _ _ h => h) ⟨by rfl, ?_⟩ hS ?_
          rotate_left
          · intro wq hSw; go_simp; try rfl
          simp only [Act.put, List.setIfInBounds_toArray, List.set_cons_zero, List.set_cons_succ]
          refine take_at 3 (some 130) (v := ?_) rfl rfl (by kernel_rfl) (by kernel_rfl) (by kernel_rfl) (fun _ _ _ h => h) ⟨by rfl, ?_⟩ hS ?_
          rotate_left
          · intro wq hSw; have s7 := hSw.1; go_simp; try rfl
          simp only [Act.put, List.setIfInBounds_toArray, List.set_cons_zero, List.set_cons_succ]
          refine take_at 4 (some 131) (v := ?_) rfl rfl (by kernel_rfl) (by kernel_rfl) (by kernel_rfl) (fun _ _ _ h => h) ⟨by rfl, ?_⟩ hS ?_
          rotate_left
          · intro wq hSw; go_simp; try rfl
          simp only [Act.put, List.setIfInBounds_toArray, List.set_cons_zero, List.set_cons_succ]
          refine take_at 5 (some 132) (v := ?_) rfl rfl (by kernel_rfl) (by kernel_rfl) (by kernel_rfl) (fun _ _ _ h => h) ⟨by rfl, ?_⟩ hS ?_
          rotate_left
          · intro wq hSw; go_simp; try rfl
          simp only [Act.put, List.setIfInBounds_toArray, List.set_cons_zero, List.set_cons_succ]
          refine take_at 6 (some 133) (v := ?_) rfl rfl (by kernel_rfl) (by kernel_rfl) (by kernel_rfl) (fun _ _ _ h => h) ⟨by rfl, ?_⟩ hS ?_
          rotate_left
          · intro wq hSw; go_simp; try rfl
          simp only [Act.put, List.setIfInBounds_toArray, List.set_cons_zero, List.set_cons_succ]
          refine take_at 7 (some 134) (v := ?_) rfl rfl (by kernel_rfl) (by kernel_rfl) (by kernel_rfl) (fun _ _ _ h => h) ⟨by rfl, ?_⟩ hS ?_
          rotate_left
          · intro wq hSw; go_simp; try rfl
          simp only [Act.put, List.setIfInBounds_toArray, List.set_cons_zero, List.set_cons_succ]
          refine take_at 8 (some 135) (v := ?_) rfl rfl (by kernel_rfl) (by kernel_rfl) (by kernel_rfl) (fun _ _ _ h => h) ⟨by rfl, ?_⟩ hS ?_
          rotate_left
          · intro wq hSw; have s7 := hSw.1; go_simp; try rfl
          simp only [Act.put, List.setIfInBounds_toArray, List.set_cons_zero, List.set_cons_succ]
          refine take_at 9 (some 136) (v := ?_) rfl rfl (by kernel_rfl) (by kernel_rfl) (by kernel_rfl) (fun _ _ _ h => h) ⟨by rfl, ?_⟩ hS ?_
          rotate_left
          · intro wq hSw; go_simp; try rfl
          simp only [Act.put, List.setIfInBounds_toArray, List.set_cons_zero, List.set_cons_succ]
          refine take_at 10 (some 137) (v := ?_) rfl rfl (by kernel_rfl) (by kernel_rfl) (by kernel_rfl) (fun _ _ _ h => h) ⟨by rfl, ?_⟩ hS ?_
          rotate_left
          · intro wq hSw; go_simp; try rfl
          simp only [Act.put, List.setIfInBounds_toArray, List.set_cons_zero, List.set_cons_succ]
          refine take_at 12 (some 139) (v := ?_) rfl rfl (by kernel_rfl) (by kernel_rfl) (by kernel_rfl) (fun _ _ _ h => h) ⟨by rfl, ?_⟩ hS ?_
          rotate_left
          · intro wq hSw; go_simp; try rfl
          simp only [Act.put, List.setIfInBounds_toArray, List.set_cons_zero, List.set_cons_succ]
          refine take_at 13 (some 140) (v := ?_) rfl rfl (by kernel_rfl) (by kernel_rfl) (by kernel_rfl) (fun _ _ _ h => h) ⟨by rfl, ?_⟩ hS ?_
          rotate_left
          · intro wq hSw; have o3 := ((RBox.cells hSw.2.1).get 3 _ rfl).1; rw [ENN.out] at o3; go_simp; try rfl
          simp only [Act.put, List.setIfInBounds_toArray, List.set_cons_zero, List.set_cons_succ]
          refine take_at 14 (some 141) (v := ?_) rfl rfl (by kernel_rfl) (by kernel_rfl) (by kernel_rfl) (fun _ _ _ h => h) ⟨by rfl, ?_⟩ hS ?_
          rotate_left
          · intro wq hSw; go_simp; try rfl
          simp only [Act.put, List.setIfInBounds_toArray, List.set_cons_zero, List.set_cons_succ]
          refine take_at 15 (some 142) (v := ?_) rfl rfl (by kernel_rfl) (by kernel_rfl) (by kernel_rfl) (fun _ _ _ h => h) ⟨by rfl, ?_⟩ hS ?_
          rotate_left
          · intro wq hSw; go_simp; try rfl
          simp only [Act.put, List.setIfInBounds_toArray, List.set_cons_zero, List.set_cons_succ]
          refine take_at 16 (some 143) (v := ?_) rfl rfl (by kernel_rfl) (by kernel_rfl) (by kernel_rfl) (fun _ _ _ h => h) ⟨by rfl, ?_⟩ hS ?_
          rotate_left
          · intro wq hSw; have s9 := hSw.2.2; go_simp; try rfl
          simp only [Act.put, List.setIfInBounds_toArray, List.set_cons_zero, List.set_cons_succ]
          refine wpAnyH_ready (rs := [11]) (by kernel_rfl) (by simp) ?_
          refine AllReadyH.cons rfl (fun K hK => ?_) AllReadyH.nil
          go_simp
          (try go_wp2_with fail)
          refine hK.out _ _ hS (fun hS => ?_)
          clear hK K
          (try simp only [Act.put, List.setIfInBounds_toArray, List.set_cons_zero, List.set_cons_succ])
          refine take_at 17 (some 144) (v := ?_) rfl rfl (by kernel_rfl) (by kernel_rfl) (by kernel_rfl) (fun _ _ _ h => h) ⟨by rfl, ?_⟩ hS ?_
          rotate_left
          · intro wq hSw; go_simp; try rfl
          simp only [Act.put, List.setIfInBounds_toArray, List.set_cons_zero, List.set_cons_succ]
          refine take_at 18 (some 145) (v := ?_) rfl rfl (by kernel_rfl) (by kernel_rfl) (by kernel_rfl) (fun _ _ _ h => h) ⟨by rfl, ?_⟩ hS ?_
          rotate_left
          · intro wq hSw; go_simp; try rfl
          simp only [Act.put, List.setIfInBounds_toArray, List.set_cons_zero, List.set_cons_succ]
          refine wpAnyH_ready (rs := [19]) (by kernel_rfl) (by simp) ?_
          refine AllReadyH.cons rfl (fun K hK => ?_) AllReadyH.nil
          go_simp
          (try go_wp2_with fail)
          obtain ⟨l', el, WF⟩ := WE.out.setInt HB.out (g := gS) (i := i) hgS tS2 (IntKind.i64.wrap (sv + zn)) (wrap_i64' _)
          have WFF := hide WF
          clear WF
          have q7 := ((RBox.cells WFF.out.a.st.box).get 7 _ rfl).1
          simp only at q7
          rw [eS] at q7
          have y9 := ((Keep.refl (fun y => y = gS) we2).setCell (g := gS) (j := i) (fun _ => rfl) (.int .i64 (IntKind.i64.wrap (sv + zn)))).cell (p := ⟨gN, i, none⟩) (by obtain ⟨cur, e⟩ := WE.out.reads.1; exact (Array.getElem?_eq_some_iff.1 e).1) (fun e => nNS2 e)
          refine hK.out _ _ ⟨q7, WFF.out.o, y9.trans hS.2.2⟩ (fun hS => ?_)
          clear hK K
          (try simp only [Act.put, List.setIfInBounds_toArray, List.set_cons_zero, List.set_cons_succ])
          clear hS q7 y9 yS2 fS2 tS2
          refine wpAnyH_done (by kernel_rfl) ?_ _
          obtain ⟨w8, hw8⟩ : ∃ y : World, y = we2.setCell ⟨gS, i, none⟩ (.int .i64 (IntKind.i64.wrap (sv + zn))) := ⟨_, rfl⟩
          rw [← hw8] at WFF ⊢
          clear hw8
          go_wp2_with fail
          go_roundw
          case rel => exact ⟨i + 1, l', by go_num, by omega, by simp only at el; omega, WFF.out⟩
          case measure => simp [intOf]; omega
        · obtain rfl : nL = i := by omega
          have g1 : decide ((nL : Int) < (nL : Int)) = false := decide_eq_false (by omega)
          go_wp2_with fail
          first | go_ret | go_ret2
          refine ⟨⟨⟨_, rfl⟩⟩, ⟨_, WD.out.a.st, ⟨by (try simp only); have := E6.out.1; omega, by (try simp only); rw [E6.out.2.1]; omega, by (try simp only); rw [E6.out.2.2.1]; have := NV.out; omega, ⟨by (try simp only); rw [E6.out.2.2.2.1, E6.out.2.2.2.2.1]; exact HL.out.gi, by (try simp only); rw [E6.out.2.1, ← NL.out]; exact hll.symm, by (try simp only); rw [E6.out.2.2.2.2.1]; exact HL.out.ig⟩⟩⟩, WD.out.a.bw⟩
    by_cases h9 : k = 9
    · have f8 : decide ((k : Int) = 8) = false := decide_eq_false (by omega)
      have f8b : ((k : Int) == 8) = false := by simp; omega
      have f9 : decide ((k : Int) = 9) = true := decide_eq_true (by omega)
      have f9b : ((k : Int) == 9) = true := by simp; omega
      go_upto_region 26 with fail
      have q5 := W8.out.q5
      refine wp_region_held_drew (S := fun wq => wq.cell? ⟨sb, 5, none⟩ = some (.slice (some ⟨gV, 0, none⟩) nV cV) ∧ RBox wq X8 133 (opA op)) (by kernel_rfl) ⟨by rw [← q5]; rfl, RBox.below W8.out.o (Below.refl _ _).drew⟩ (fun hS => ?_)
      clear q5
      have W9 := hide (W8.out.below (Below.refl _ _).drew HB.out)
      clear W8
      generalize w3.drew = wf at *
      refine take_at 0 (some 149) (v := ?_) rfl rfl (by kernel_rfl) (by kernel_rfl) (by kernel_rfl) (fun _ _ _ h => h) ⟨by rfl, ?_⟩ hS ?_
      rotate_left
      · intro wq hSw; go_simp; try rfl
      simp only [Act.put, List.setIfInBounds_toArray, List.set_cons_zero, List.set_cons_succ]
      refine take_at 1 (some 150) (v := ?_) rfl rfl (by kernel_rfl) (by kernel_rfl) (by kernel_rfl) (fun _ _ _ h => h) ⟨by rfl, ?_⟩ hS ?_
      rotate_left
      · intro wq hSw; go_simp; try rfl
      simp only [Act.put, List.setIfInBounds_toArray, List.set_cons_zero, List.set_cons_succ]
      refine take_at 2 (some 151) (v := ?_) rfl rfl (by kernel_rfl) (by kernel_rfl) (by kernel_rfl) (fun _ _ _ h => h) ⟨by rfl, ?_⟩ hS ?_
      rotate_left
      · intro wq hSw; go_simp; try rfl
      simp only [Act.put, List.setIfInBounds_toArray, List.set_cons_zero, List.set_cons_succ]
      refine take_at 3 (some 152) (v := ?_) rfl rfl (by kernel_rfl) (by kernel_rfl) (by kernel_rfl) (fun _ _ _ h => h) ⟨by rfl, ?_⟩ hS ?_
      rotate_left
      · intro wq hSw; have s5 := hSw.1; go_simp; try rfl
      simp only [Act.put, List.setIfInBounds_toArray, List.set_cons_zero, List.set_cons_succ]
      refine take_at 4 (some 153) (v := ?_) rfl rfl (by kernel_rfl) (by kernel_rfl) (by kernel_rfl) (fun _ _ _ h => h) ⟨by rfl, ?_⟩ hS ?_
      rotate_left
      · intro wq hSw; go_simp; try rfl
      simp only [Act.put, List.setIfInBounds_toArray, List.set_cons_zero, List.set_cons_succ]
      refine take_at 5 (some 154) (v := ?_) rfl rfl (by kernel_rfl) (by kernel_rfl) (by kernel_rfl) (fun _ _ _ h => h) ⟨by rfl, ?_⟩ hS ?_
      rotate_left
      · intro wq hSw; go_simp; try rfl
      simp only [Act.put, List.setIfInBounds_toArray, List.set_cons_zero, List.set_cons_succ]
      refine take_at 6 (some 155) (v := ?_) rfl rfl (by kernel_rfl) (by kernel_rfl) (by kernel_rfl) (fun _ _ _ h => h) ⟨by rfl, ?_⟩ hS ?_
      rotate_left
      · intro wq hSw; go_simp; try rfl
      simp only [Act.put, List.setIfInBounds_toArray, List.set_cons_zero, List.set_cons_succ]
      refine take_at 7 (some 156) (v := ?_) rfl rfl (by kernel_rfl) (by kernel_rfl) (by kernel_rfl) (fun _ _ _ h => h) ⟨by rfl, ?_⟩ hS ?_
      rotate_left
      · intro wq hSw; have o0 := ((RBox.cells hSw.2).get 0 _ rfl).1; go_simp; try rfl
      simp only [Act.put, List.setIfInBounds_toArray, List.set_cons_zero, List.set_cons_succ]
      refine take_at 8 (some 157) (v := ?_) rfl rfl (by kernel_rfl) (by kernel_rfl) (by kernel_rfl) (fun _ _ _ h => h) ⟨by rfl, ?_⟩ hS ?_
      rotate_left
      · intro wq hSw; go_simp; try rfl
      simp only [Act.put, List.setIfInBounds_toArray, List.set_cons_zero, List.set_cons_succ]
      refine take_at 9 (some 158) (v := ?_) rfl rfl (by kernel_rfl) (by kernel_rfl) (by kernel_rfl) (fun _ _ _ h => h) ⟨by rfl, ?_⟩ hS ?_
      rotate_left
      · intro wq hSw; have o1 := ((RBox.cells hSw.2).get 1 _ rfl).1; go_simp; try rfl
      simp only [Act.put, List.setIfInBounds_toArray, List.set_cons_zero, List.set_cons_succ]
      refine take_at 10 (some 159) (v := ?_) rfl rfl (by kernel_rfl) (by kernel_rfl) (by kernel_rfl) (fun _ _ _ h => h) ⟨by rfl, ?_⟩ hS ?_
      rotate_left
      · intro wq hSw; go_simp; try rfl
      simp only [Act.put, List.setIfInBounds_toArray, List.set_cons_zero, List.set_cons_succ]
      refine wpAnyH_ready (rs := [11]) (by kernel_rfl) (by simp) ?_
      refine AllReadyH.cons rfl (fun K hK => ?_) AllReadyH.nil
      go_simp
      go_wp2_with fail
      refine (writes_any W9.out.a.st ⟨0, 6, op.tx, op.last, 0, 0, 0, 0, 0, 0, 0, 0, 0, 0, none, 0, 0, none, 0, 0, 0⟩ ⟨i64_0, i64_0⟩ (by omega) (by have := W9.out.a.up; have := HB.out; omega)).mono ?_
      rintro e w4 ⟨z, vR', rfl, h3, k3⟩
      obtain ⟨s4, hs4⟩ : ∃ y : SV, y = { s with vR := vR', R := s.R ++ [numd ⟨0, 6, op.tx, op.last, 0, 0, 0, 0, 0, 0, 0, 0, 0, 0, none, 0, 0, none, 0, 0, 0⟩ z] } := ⟨_, rfl⟩
      rw [← hs4] at h3
      have WA := hide (W9.out.wrote HB.out h3 k3 (by rw [hs4]) (by rw [hs4]))
      have EE := hide (show s4.R.length = s.R.length + 1 ∧ s4.P = s.P ∧ s4.V.length = s.V.length ∧ s4.G = s.G ∧ s4.I = s.I ∧ s4.S = s.S by rw [hs4]; exact ⟨by simp, rfl, rfl, rfl, rfl, rfl⟩)
      clear h3 k3 hs4 W9
      go_wp2_with fail
      refine hK.out _ _ ⟨WA.out.q5, WA.out.o⟩ (fun hS => ?_)
      clear hK K
      (try simp only [Act.put, List.setIfInBounds_toArray, List.set_cons_zero, List.set_cons_succ])
      refine take_at 12 (some 161) (v := ?_) rfl rfl (by kernel_rfl) (by kernel_rfl) (by kernel_rfl) (fun _ _ _ h => h) ⟨by rfl, ?_⟩ hS ?_
      rotate_left
      · intro wq hSw; go_simp; try rfl
      simp only [Act.put, List.setIfInBounds_toArray, List.set_cons_zero, List.set_cons_succ]
      refine take_at 13 (some 162) (v := ?_) rfl rfl (by kernel_rfl) (by kernel_rfl) (by kernel_rfl) (fun _ _ _ h => h) ⟨by rfl, ?_⟩ hS ?_
      rotate_left
      · intro wq hSw; go_simp; try rfl
      simp only [Act.put, List.setIfInBounds_toArray, List.set_cons_zero, List.set_cons_succ]
      obtain ⟨y1, f1⟩ := WA.out.cellV (j := 1) rfl
      refine wpAnyH_ready (rs := [14]) (by kernel_rfl) (by simp) ?_
      refine AllReadyH.cons rfl (fun K hK => ?_) AllReadyH.nil
      go_simp
      (try go_wp2_with fail)
      have WB := hide (WA.out.setOpen HB.out (j := 1) (u := .int .i64 z) (o' := { s4.V[t]'WA.out.lt with last := z }) rfl (by decide) rfl rfl)
      refine hK.out _ _ ⟨WB.out.q5, WB.out.o⟩ (fun hS => ?_)
      clear hK K
      (try simp only [Act.put, List.setIfInBounds_toArray, List.set_cons_zero, List.set_cons_succ])
      clear hS y1 f1
      refine wpAnyH_done (by kernel_rfl) ?_ _
      obtain ⟨s5, hs5⟩ : ∃ y : SV, y = { s4 with V := s4.V.set t { s4.V[t]'WA.out.lt with last := z } } := ⟨_, rfl⟩
      rw [← hs5] at WB
      have E5 := hide (show s5.R.length = s.R.length + 1 ∧ s5.P = s.P ∧ s5.V.length = s.V.length ∧ s5.G = s.G ∧ s5.I = s.I ∧ s5.S = s.S by rw [hs5]; obtain ⟨e1, e2, e3, e4, e5, e6⟩ := EE.out; exact ⟨e1, e2, by simp [e3], e4, e5, e6⟩)
      clear hs5 EE WA
      obtain ⟨w5, hw5⟩ : ∃ y : World, y = w4.setCell ⟨gV, t * 5 + 1, none⟩ (.int .i64 z) := ⟨_, rfl⟩
      rw [← hw5] at WB ⊢
      clear hw5
      obtain ⟨nL, hnL⟩ : ∃ z, z = s.P.length := ⟨_, rfl⟩
      have NL := hide hnL
      clear hnL
      have hnL1 : nL ≤ 60 := by rw [NL.out]; exact hP
      go_wp2_with fail
      go_loopw [10] (fun v wz => ∃ (i : Nat) (s7 : SV), v = .int .i64 (i : Int) ∧ i ≤ nL ∧ s7.R.length ≤ s5.R.length + i ∧ s7.P = s.P ∧ s7.V.length = s.V.length ∧ s7.G = s.G ∧ s7.I = s.I ∧ s7.S = s.S ∧ At8 w wz B sb X0 #[.int .i64 kd, .int .i64 da, .int .i64 db, .int .i64 dd] s7 X8 gV op t nV cV gN cN gH cH) (fun v _ => nL + 1 - (intOf v).toNat)
      case atStart => exact ⟨0, s5, rfl, Nat.zero_le _, Nat.le_refl _, E5.out.2.1, E5.out.2.2.1, E5.out.2.2.2.1, E5.out.2.2.2.2.1, E5.out.2.2.2.2.2, WB.out⟩
      case round =>
        obtain ⟨i, s7, rfl, hi, hr7, hp7, hv7, hg7, hi7, hs7, hw⟩ := hrel
        have WD := hide hw
        clear hw
        obtain ⟨aL, cL, eL, -⟩ := GRow.lies WD.out.a.st.l
        rw [hp7, ← NL.out] at eL
        have q2 := ((RBox.cells WD.out.a.st.box).get 2 _ rfl).1
        rw [eL] at q2
        clear eL
        by_cases hlt : i < nL
        · have g1 : decide ((i : Int) < (nL : Int)) = true := decide_eq_true (by omega)
          have g2 : (i : Int) < (nL : Int) := by omega
          have g3 : (i : Int) < 200 := by omega
          obtain ⟨-, -, -, -, -, rdN, rdH, -, -⟩ := WD.out.reads
          obtain ⟨zn, izn, yN⟩ := rdN i (by omega)
          obtain ⟨bh, yH⟩ := rdH i (by omega)
          clear rdN rdH
          have o3 := ((RBox.cells WD.out.o).get 3 _ rfl).1
          rw [WD.out.en] at o3
          have o4 := ((RBox.cells WD.out.o).get 4 _ rfl).1
          rw [WD.out.eh] at o4
          have hr5 := E5.out.1
          cases bh
          · go_wp2_with fail
            go_roundw
            case rel => exact ⟨i + 1, s7, by go_num, by omega, by omega, hp7, hv7, hg7, hi7, hs7, WD.out⟩
            case measure => simp [intOf]; omega
          · go_wp2_with fail
            refine (change_any WD.out.a.st 4 zn t i WD.out.lt (by rw [hp7, ← NL.out]; exact hlt) izn (by omega) (by have := WD.out.a.up; have := HB.out; omega) (by rw [hv7]; have := NV.out; omega) (by rw [hp7]; omega)).mono ?_
            rintro e w7 ⟨rfl, s8, h8, r8, v8, p8, gg8, ii8, ss8, -, n8, vv8, kk8, -⟩
            have W7 := hide (WD.out.changed HB.out h8 kk8 vv8 v8 (fun h1 h2 => ⟨(n8 t h1 h2).1, (n8 t h1 h2).2.1⟩))
            clear h8 kk8 n8 q2 yN yH o3 o4
            go_wp2_with fail
            go_roundw
            case rel => exact ⟨i + 1, s8, by go_num, by omega, by omega, by rw [p8]; exact hp7, by rw [v8]; exact hv7, by rw [gg8]; exact hg7, by rw [ii8]; exact hi7, by rw [ss8]; exact hs7, W7.out⟩
            case measure => simp [intOf]; omega
        · obtain rfl : nL = i := by omega
          have g1 : decide ((nL : Int) < (nL : Int)) = false := decide_eq_false (by omega)
          go_upto_region 32 with fail
          clear q2 g1
          have q5 := WD.out.q5
          obtain ⟨y1, -⟩ := WD.out.cellV (j := 1) rfl
          obtain ⟨la, hla⟩ : ∃ z, z = (s7.V[t]'WD.out.lt).last := ⟨_, rfl⟩
          rw [← hla] at y1
          refine wp_region_held_drew (S := fun wq => wq.cell? ⟨sb, 5, none⟩ = some (.slice (some ⟨gV, 0, none⟩) nV cV) ∧ RBox wq X8 133 (opA op) ∧ wq.cell? ⟨gV, t * 5 + 1, none⟩ = some (.int .i64 la)) (by kernel_rfl) ⟨by rw [← q5]; rfl, RBox.below WD.out.o (Below.refl _ _).drew, by rw [← y1]; rfl⟩ (fun hS => ?_)
          have WE := hide (WD.out.below (Below.refl _ _).drew HB.out)
          have ft : (t : Int) < (nV : Int) := by have := WE.out.tl; omega
          clear WD q5 y1 hla
          generalize wr.drew = wg at *
          refine take_at 0 (some 186) (v := ?_) rfl rfl (by kernel_rfl) (by kernel_rfl) (by kernel_rfl) (fun _ _ _ h => h) ⟨by rfl, ?_⟩ hS ?_
          rotate_left
          · intro wq hSw; go_simp; try rfl
          simp only [Act.put, List.setIfInBounds_toArray, List.set_cons_zero, List.set_cons_succ]
          refine take_at 1 (some 187) (v := ?_) rfl rfl (by kernel_rfl) (by kernel_rfl) (by kernel_rfl) (fun _ _ _ h => h) ⟨by rfl, ?_⟩ hS ?_
          rotate_left
          · intro wq hSw; go_simp; try rfl
          simp only [Act.put, List.setIfInBounds_toArray, List.set_cons_zero, List.set_cons_succ]
          refine take_at 2 (some 188) (v := ?_) rfl rfl (by kernel_rfl) (by kernel_rfl) (by kernel_rfl) (fun _ _ _ h => h) ⟨by rfl, ?_⟩ hS ?_
          rotate_left
          · intro wq hSw; have o0 := ((RBox.cells hSw.2.1).get 0 _ rfl).1; go_simp; try rfl
          simp only [Act.put, List.setIfInBounds_toArray, List.set_cons_zero, List.set_cons_succ]
          refine take_at 3 (some 189) (v := ?_) rfl rfl (by kernel_rfl) (by kernel_rfl) (by kernel_rfl) (fun _ _ _ h => h) ⟨by rfl, ?_⟩ hS ?_
          rotate_left
          · intro wq hSw; go_simp; try rfl
          simp only [Act.put, List.setIfInBounds_toArray, List.set_cons_zero, List.set_cons_succ]
          refine take_at 4 (some 190) (v := ?_) rfl rfl (by kernel_rfl) (by kernel_rfl) (by kernel_rfl) (fun _ _ _ h => h) ⟨by rfl, ?_⟩ hS ?_
          rotate_left
          · intro wq hSw; go_simp; try rfl
          simp only [Act.put, List.setIfInBounds_toArray, List.set_cons_zero, List.set_cons_succ]
          refine take_at 5 (some 191) (v := ?_) rfl rfl (by kernel_rfl) (by kernel_rfl) (by kernel_rfl) (fun _ _ _ h => h) ⟨by rfl, ?_⟩ hS ?_
          rotate_left
          · intro wq hSw; go_simp; try rfl
          simp only [Act.put, List.setIfInBounds_toArray, List.set_cons_zero, List.set_cons_succ]
          refine take_at 6 (some 192) (v := ?_) rfl rfl (by kernel_rfl) (by kernel_rfl) (by kernel_rfl) (fun _ _ _ h => h) ⟨by rfl, ?_⟩ hS ?_
          rotate_left
          · intro wq hSw; have s5 := hSw.1; go_simp; try rfl
          simp only [Act.put, List.setIfInBounds_toArray, List.set_cons_zero, List.set_cons_succ]
          refine take_at 7 (some 193) (v := ?_) rfl rfl (by kernel_rfl) (by kernel_rfl) (by kernel_rfl) (fun _ _ _ h => h) ⟨by rfl, ?_⟩ hS ?_
          rotate_left
          · intro wq hSw; go_simp; try rfl
          simp only [Act.put, List.setIfInBounds_toArray, List.set_cons_zero, List.set_cons_succ]
          refine take_at 8 (some 194) (v := ?_) rfl rfl (by kernel_rfl) (by kernel_rfl) (by kernel_rfl) (fun _ _ _ h => h) ⟨by rfl, ?_⟩ hS ?_
          rotate_left
          · intro wq hSw; go_simp; try rfl
          simp only [Act.put, List.setIfInBounds_toArray, List.set_cons_zero, List.set_cons_succ]
          refine take_at 9 (some 195) (v := ?_) rfl rfl (by kernel_rfl) (by kernel_rfl) (by kernel_rfl) (fun _ _ _ h => h) ⟨by rfl, ?_⟩ hS ?_
          rotate_left
          · intro wq hSw; go_simp; try rfl
          simp only [Act.put, List.setIfInBounds_toArray, List.set_cons_zero, List.set_cons_succ]
          refine take_at 10 (some 196) (v := ?_) rfl rfl (by kernel_rfl) (by kernel_rfl) (by kernel_rfl) (fun _ _ _ h => h) ⟨by rfl, ?_⟩ hS ?_
          rotate_left
          · intro wq hSw; have s9 := hSw.2.2; go_simp; try rfl
          simp only [Act.put, List.setIfInBounds_toArray, List.set_cons_zero, List.set_cons_succ]
          refine take_at 11 (some 197) (v := ?_) rfl rfl (by kernel_rfl) (by kernel_rfl) (by kernel_rfl) (fun _ _ _ h => h) ⟨by rfl, ?_⟩ hS ?_
          rotate_left
          · intro wq hSw; go_simp; try rfl
          simp only [Act.put, List.setIfInBounds_toArray, List.set_cons_zero, List.set_cons_succ]
          refine wpAnyH_ready (rs := [12]) (by kernel_rfl) (by simp) ?_
          refine AllReadyH.cons rfl (fun K hK => ?_) AllReadyH.nil
          go_simp
          go_wp2_with fail
          refine (writes_any WE.out.a.st ⟨0, 7, op.tx, la, 0, 0, 0, 0, 0, 0, 0, 0, 0, 0, none, 0, 0, none, 0, 0, 0⟩ ⟨i64_0, i64_0⟩ (by have := E5.out.1; omega) (by have := WE.out.a.up; have := HB.out; omega)).mono ?_
          rintro e w8 ⟨z9, vR9, rfl, h9, k9⟩
          have WF := hide (WE.out.wrote HB.out h9 k9 rfl rfl)
          have H9 := hide h9
          have y9 := (WF.out.cellV (j := 1) rfl).1
          go_wp2_with fail
          refine hK.out _ _ ⟨WF.out.q5, WF.out.o, (k9.cell (p := ⟨gV, t * 5 + 1, none⟩) (World.ownsRow.lt WE.out.row gV rfl).2 (fun q => q.elim (fun e => box_row WE.out.a.st.box WE.out.row (by decide) (by rw [← e]; rfl)) (fun e => by obtain ⟨c1, e1⟩ := grow_ty WE.out.a.st.r e; obtain ⟨c2, e2⟩ := grow_ty WE.out.row (g := gV) rfl; rw [e1] at e2; cases e2))).trans hS.2.2⟩ (fun hS => ?_)
          clear hK K
          (try simp only [Act.put, List.setIfInBounds_toArray, List.set_cons_zero, List.set_cons_succ])
          clear hS y9 h9 k9
          refine wpAnyH_done (by kernel_rfl) ?_ _
          go_wp2_with fail
          refine (leaves_any H9.out t (by show t < s7.V.length; have := WE.out.lt; omega) (Nat.le_trans HB.out WF.out.a.up) (by show s7.V.length ≤ 1000; have := NV.out; omega)).mono ?_
          rintro e w9 ⟨rfl, ⟨v', h4⟩, b4⟩
          go_wp2_with fail
          first | go_ret | go_ret2
          refine ⟨⟨⟨_, rfl⟩⟩, ⟨_, h4, ⟨by have := E5.out.1; simp; omega, by (try simp only); rw [hp7]; omega, by have := cutAt_le s7.V t; have := NV.out; (try simp only); omega, ⟨by (try simp only); rw [hg7, hi7]; exact HL.out.gi, by (try simp only); rw [hp7, hs7]; exact HL.out.ls, by (try simp only); rw [hi7]; exact HL.out.ig⟩⟩⟩, WF.out.a.bw.trans b4⟩
    · have f8 : decide ((k : Int) = 8) = false := decide_eq_false (by omega)
      have f8b : ((k : Int) == 8) = false := by simp; omega
      have f9 : decide ((k : Int) = 9) = false := decide_eq_false (by omega)
      have f9b : ((k : Int) == 9) = false := by simp; omega
      obtain ⟨nL, hnL⟩ : ∃ z, z = s.P.length := ⟨_, rfl⟩
      have NL := hide hnL
      have hnL1 : nL ≤ 60 := by rw [NL.out]; exact hP
      clear hnL
      obtain ⟨aL, cL, eL, -⟩ := GRow.lies W8.out.a.st.l
      rw [← NL.out] at eL
      have EL := hide eL
      clear eL
      have q2 := ((RBox.cells W8.out.a.st.box).get 2 _ rfl).1
      rw [EL.out] at q2
      by_cases hl0 : 0 < nL
      · have f3 : decide ((nL : Int) > 0) = true := decide_eq_true (by omega)
        have f4 : decide (0 < (nL : Int)) = true := decide_eq_true (by omega)
        go_upto_region 35 with fail
        refine wp_region_held_drew (S := fun wq => RBox wq X0 102 #[.int .i64 kd, .int .i64 da, .int .i64 db, .int .i64 dd] ∧ wq.cell? ⟨sb, 2, none⟩ = some (.slice aL nL cL)) (by kernel_rfl) ⟨RBox.below W8.out.a.dd (Below.refl _ _).drew, by rw [← q2]; rfl⟩ (fun hS => ?_)
        have W9 := hide (W8.out.below (Below.refl _ _).drew HB.out)
        clear W8 q2 f3 f4 f8 f8b f9 f9b o2
        generalize w3.drew = wf at *
        refine take_at 0 (some 209) (v := ?_) rfl rfl (by kernel_rfl) (by kernel_rfl) (by kernel_rfl) (fun _ _ _ h => h) ⟨by rfl, ?_⟩ hS ?_
        rotate_left
        · intro wq hSw; go_simp; try rfl
        simp only [Act.put, List.setIfInBounds_toArray, List.set_cons_zero, List.set_cons_succ]
        refine take_at 1 (some 210) (v := ?_) rfl rfl (by kernel_rfl) (by kernel_rfl) (by kernel_rfl) (fun _ _ _ h => h) ⟨by rfl, ?_⟩ hS ?_
        rotate_left
        · intro wq hSw; have z1 := ((RBox.cells hSw.1).get 2 _ rfl).1; go_simp; try rfl
        simp only [Act.put, List.setIfInBounds_toArray, List.set_cons_zero, List.set_cons_succ]
        refine take_at 2 (some 211) (v := ?_) rfl rfl (by kernel_rfl) (by kernel_rfl) (by kernel_rfl) (fun _ _ _ h => h) ⟨by rfl, ?_⟩ hS ?_
        rotate_left
        · intro wq hSw; go_simp; try rfl
        simp only [Act.put, List.setIfInBounds_toArray, List.set_cons_zero, List.set_cons_succ]
        refine take_at 3 (some 212) (v := ?_) rfl rfl (by kernel_rfl) (by kernel_rfl) (by kernel_rfl) (fun _ _ _ h => h) ⟨by rfl, ?_⟩ hS ?_
        rotate_left
        · intro wq hSw; go_simp; try rfl
        simp only [Act.put, List.setIfInBounds_toArray, List.set_cons_zero, List.set_cons_succ]
        refine take_at 4 (some 213) (v := ?_) rfl rfl (by kernel_rfl) (by kernel_rfl) (by kernel_rfl) (fun _ _ _ h => h) ⟨by rfl, ?_⟩ hS ?_
        rotate_left
        · intro wq hSw; go_simp; try rfl
        simp only [Act.put, List.setIfInBounds_toArray, List.set_cons_zero, List.set_cons_succ]
        refine take_at 5 (some 214) (v := ?_) rfl rfl (by kernel_rfl) (by kernel_rfl) (by kernel_rfl) (fun _ _ _ h => h) ⟨by rfl, ?_⟩ hS ?_
        rotate_left
        · intro wq hSw; have z5 := hSw.2; go_simp; try rfl
        simp only [Act.put, List.setIfInBounds_toArray, List.set_cons_zero, List.set_cons_succ]
        refine take_at 6 (some 215) (v := ?_) rfl rfl (by kernel_rfl) (by kernel_rfl) (by kernel_rfl) (fun _ _ _ h => h) ⟨by rfl, ?_⟩ hS ?_
        rotate_left
        · intro wq hSw; go_simp; try rfl
        simp only [Act.put, List.setIfInBounds_toArray, List.set_cons_zero, List.set_cons_succ]
        refine wpAnyH_ready (rs := [7]) (by kernel_rfl) (by simp) ?_
        refine AllReadyH.cons rfl (fun K hK => ?_) AllReadyH.nil
        go_simp
        go_wp2_with fail
        refine (brought52_any db nL _ ib (by omega) (by omega)).mono ?_
        rintro e y1 ⟨i, rfl, hil, rfl⟩
        go_wp2_with fail
        refine hK.out _ _ hS (fun hS => ?_)
        clear hK K
        (try simp only [Act.put, List.setIfInBounds_toArray, List.set_cons_zero, List.set_cons_succ])
        refine take_at 8 (some 11) (v := ?_) rfl rfl (by kernel_rfl) (by kernel_rfl) (by kernel_rfl) (fun _ _ _ h => h) ⟨by rfl, ?_⟩ hS ?_
        rotate_left
        · intro wq hSw; go_simp; try rfl
        simp only [Act.put, List.setIfInBounds_toArray, List.set_cons_zero, List.set_cons_succ]
        clear hS
        refine wpAnyH_done (by kernel_rfl) ?_ _
        have d3 := ((RBox.cells W9.out.a.dd).get 3 _ rfl).1
        obtain ⟨xx, hxx⟩ : ∃ z, z = Int.tmod dd 1000 := ⟨_, rfl⟩
        have bv1 := Int.lt_tmod_of_pos dd (show (0 : Int) < 1000 by decide)
        have bv2 := Int.tmod_lt_of_pos dd (show (0 : Int) < 1000 by decide)
        rw [← hxx] at bv1 bv2
        have tv := hxx.symm
        have wv := (wrT bv1 bv2).1
        have wv2 := (wrT bv1 bv2).2
        clear hxx
        go_wp2_with fail
        refine (change_any W9.out.a.st 3 xx t i W9.out.lt (by rw [← NL.out]; exact hil) (by unfold I64; omega) (by omega) (by have := W9.out.a.up; have := HB.out; omega) (by have := NV.out; omega) (by omega)).mono ?_
        rintro e w7 ⟨rfl, s8, h8, r8, v8, p8, gg8, ii8, ss8, -, n8, vv8, kk8, -⟩
        have WA := hide (W9.out.changed HB.out h8 kk8 vv8 v8 (fun h1 h2 => ⟨(n8 t h1 h2).1, (n8 t h1 h2).2.1⟩))
        clear h8 kk8 n8 W9 d3 tv wv wv2
        go_upto_region 38 with fail
        obtain ⟨tN, -, -, hgN, -, rdN, -, fN, -⟩ := WA.out.reads
        obtain ⟨zn, izn, yN⟩ := rdN i (by omega)
        have fN1 := fN i
        clear rdN fN
        have q5 := WA.out.q5
        obtain ⟨y3, -⟩ := WA.out.cellV (j := 3) rfl
        rw [(WA.out.nets WA.out.lt).1, WA.out.en] at y3
        refine wp_region_held_drew (S := fun wq => wq.cell? ⟨sb, 5, none⟩ = some (.slice (some ⟨gV, 0, none⟩) nV cV) ∧ RBox wq X8 133 (opA op) ∧ wq.cell? ⟨gV, t * 5 + 3, none⟩ = some (.slice (some ⟨gN, 0, none⟩) 200 cN)) (by kernel_rfl) ⟨by rw [← q5]; rfl, RBox.below WA.out.o (Below.refl _ _).drew, by rw [← y3]; rfl⟩ (fun hS => ?_)
        have WE := hide (WA.out.below (Below.refl _ _).drew HB.out)
        have yN2 : w7.drew.cell? ⟨gN, i, none⟩ = some (.int .i64 zn) := by rw [← yN]; rfl
        have fN2 : w7.drew.frozen? ⟨gN, i, none⟩ = false := by rw [← fN1]; rfl
        have tN2 : ∃ cur, w7.drew.heap[gN]? = some (.cells cur 2 (0, 0)) := tN
        have ft : (t : Int) < (nV : Int) := by have := WE.out.tl; omega
        have fi : (i : Int) < 200 := by omega
        clear WA yN fN1 tN q5 y3
        generalize w7.drew = wg at *
        have ENN := hide WE.out.en
        refine take_at 0 (some 225) (v := ?_) rfl rfl (by kernel_rfl) (by kernel_rfl) (by kernel_rfl) (fun _ _ _ h => h) ⟨by rfl, ?_⟩ hS ?_
        rotate_left
        · intro wq hSw; go_simp; try rfl
        simp only [Act.put, List.setIfInBounds_toArray, List.set_cons_zero, List.set_cons_succ]
        refine take_at 1 (some 226) (v := ?_) rfl rfl (by kernel_rfl) (by kernel_rfl) (by kernel_rfl) (fun _ _ _ h => h) ⟨by rfl, ?_⟩ hS ?_
        rotate_left
        · intro wq hSw; go_simp; try rfl
        simp only [Act.put, List.setIfInBounds_toArray, List.set_cons_zero, List.set_cons_succ]
        refine take_at 2 (some 227) (v := ?_) rfl rfl (by kernel_rfl) (by kernel_rfl) (by kernel_rfl) (fun _ _ _ h => h) ⟨by rfl, ?_⟩ hS ?_
        rotate_left
        · intro wq hSw; go_simp; try rfl
        simp only [Act.put, List.setIfInBounds_toArray, List.set_cons_zero, List.set_cons_succ]
        refine take_at 3 (some 228) (v := ?_) rfl rfl (by kernel_rfl) (by kernel_rfl) (by kernel_rfl) (fun _ _ _ h => h) ⟨by rfl, ?_⟩ hS ?_
        rotate_left
        · intro wq hSw; have s5 := hSw.1; go_simp; try rfl
        simp only [Act.put, List.setIfInBounds_toArray, List.set_cons_zero, List.set_cons_succ]
        refine take_at 4 (some 229) (v := ?_) rfl rfl (by kernel_rfl) (by kernel_rfl) (by kernel_rfl) (fun _ _ _ h => h) ⟨by rfl, ?_⟩ hS ?_
        rotate_left
        · intro wq hSw; go_simp; try rfl
        simp only [Act.put, List.setIfInBounds_toArray, List.set_cons_zero, List.set_cons_succ]
        refine take_at 5 (some 230) (v := ?_) rfl rfl (by kernel_rfl) (by kernel_rfl) (by kernel_rfl) (fun _ _ _ h => h) ⟨by rfl, ?_⟩ hS ?_
        rotate_left
        · intro wq hSw; go_simp; try rfl
        simp only [Act.put, List.setIfInBounds_toArray, List.set_cons_zero, List.set_cons_succ]
        refine take_at 6 (some 231) (v := ?_) rfl rfl (by kernel_rfl) (by kernel_rfl) (by kernel_rfl) (fun _ _ _ h => h) ⟨by rfl, ?_⟩ hS ?_
        rotate_left
        · intro wq hSw; go_simp; try rfl
        simp only [Act.put, List.setIfInBounds_toArray, List.set_cons_zero, List.set_cons_succ]
        refine take_at 7 (some 232) (v := ?_) rfl rfl (by kernel_rfl) (by kernel_rfl) (by kernel_rfl) (fun _ _ _ h => h) ⟨by rfl, ?_⟩ hS ?_
        rotate_left
        · intro wq hSw; have s9 := hSw.2.2; go_simp; try rfl
        simp only [Act.put, List.setIfInBounds_toArray, List.set_cons_zero, List.set_cons_succ]
        refine take_at 8 (some 233) (v := ?_) rfl rfl (by kernel_rfl) (by kernel_rfl) (by kernel_rfl) (fun _ _ _ h => h) ⟨by rfl, ?_⟩ hS ?_
        rotate_left
        · intro wq hSw; go_simp; try rfl
        simp only [Act.put, List.setIfInBounds_toArray, List.set_cons_zero, List.set_cons_succ]
        refine take_at 9 (some 234) (v := ?_) rfl rfl (by kernel_rfl) (by kernel_rfl) (by kernel_rfl) (fun _ _ _ h => h) ⟨by rfl, ?_⟩ hS ?_
        rotate_left
        · intro wq hSw; go_simp; try rfl
        simp only [Act.put, List.setIfInBounds_toArray, List.set_cons_zero, List.set_cons_succ]
        refine take_at 10 (some 235) (v := ?_) rfl rfl (by kernel_rfl) (by kernel_rfl) (by kernel_rfl) (fun _ _ _ h => h) ⟨by rfl, ?_⟩ hS ?_
        rotate_left
        · intro wq hSw; have o3 := ((RBox.cells hSw.2.1).get 3 _ rfl).1; rw [ENN.out] at o3; go_simp; try rfl
        simp only [Act.put, List.setIfInBounds_toArray, List.set_cons_zero, List.set_cons_succ]
        refine take_at 11 (some 236) (v := ?_) rfl rfl (by kernel_rfl) (by kernel_rfl) (by kernel_rfl) (fun _ _ _ h => h) ⟨by rfl, ?_⟩ hS ?_
        rotate_left
        · intro wq hSw; go_simp; try rfl
        simp only [Act.put, List.setIfInBounds_toArray, List.set_cons_zero, List.set_cons_succ]
        refine take_at 12 (some 237) (v := ?_) rfl rfl (by kernel_rfl) (by kernel_rfl) (by kernel_rfl) (fun _ _ _ h => h) ⟨by rfl, ?_⟩ hS ?_
        rotate_left
        · intro wq hSw; go_simp; try rfl
        simp only [Act.put, List.setIfInBounds_toArray, List.set_cons_zero, List.set_cons_succ]
        refine take_at 14 (some 239) (v := ?_) rfl rfl (by kernel_rfl) (by kernel_rfl) (by kernel_rfl) (fun _ _ _ h => h) ⟨by rfl, ?_⟩ hS ?_
        rotate_left
        · intro wq hSw; go_simp; try rfl
        simp only [Act.put, List.setIfInBounds_toArray, List.set_cons_zero, List.set_cons_succ]
        refine wpAnyH_ready (rs := [13]) (by kernel_rfl) (by simp) ?_
        refine AllReadyH.cons rfl (fun K hK => ?_) AllReadyH.nil
        go_simp
        (try go_wp2_with fail)
        refine hK.out _ _ hS (fun hS => ?_)
        clear hK K
        (try simp only [Act.put, List.setIfInBounds_toArray, List.set_cons_zero, List.set_cons_succ])
        refine take_at 15 (some 240) (v := ?_) rfl rfl (by kernel_rfl) (by kernel_rfl) (by kernel_rfl) (fun _ _ _ h => h) ⟨by rfl, ?_⟩ hS ?_
        rotate_left
        · intro wq hSw; go_simp; try rfl
        simp only [Act.put, List.setIfInBounds_toArray, List.set_cons_zero, List.set_cons_succ]
        refine take_at 16 (some 241) (v := ?_) rfl rfl (by kernel_rfl) (by kernel_rfl) (by kernel_rfl) (fun _ _ _ h => h) ⟨by rfl, ?_⟩ hS ?_
        rotate_left
        · intro wq hSw; go_simp; try rfl
        simp only [Act.put, List.setIfInBounds_toArray, List.set_cons_zero, List.set_cons_succ]
        refine wpAnyH_ready (rs := [17]) (by kernel_rfl) (by simp) ?_
        refine AllReadyH.cons rfl (fun K hK => ?_) AllReadyH.nil
        go_simp
        (try go_wp2_with fail)
        obtain ⟨l', el, WF⟩ := WE.out.setInt HB.out (g := gN) (i := i) hgN tN2 (IntKind.i64.wrap (zn + xx)) (wrap_i64' _)
        have WFF := hide WF
        clear WF
        obtain ⟨y3, -⟩ := WFF.out.cellV (j := 3) rfl
        rw [(WFF.out.nets WFF.out.lt).1, WFF.out.en] at y3
        refine hK.out _ _ ⟨WFF.out.q5, WFF.out.o, y3⟩ (fun hS => ?_)
        clear hK K
        (try simp only [Act.put, List.setIfInBounds_toArray, List.set_cons_zero, List.set_cons_succ])
        clear hS y3 yN2 fN2 tN2
        refine wpAnyH_done (by kernel_rfl) ?_ _
        obtain ⟨w8, hw8⟩ : ∃ y : World, y = wg.setCell ⟨gN, i, none⟩ (.int .i64 (IntKind.i64.wrap (zn + xx))) := ⟨_, rfl⟩
        rw [← hw8] at WFF ⊢
        clear hw8
        obtain ⟨-, tH, -, -, hgH, -, rdH, -, fH⟩ := WFF.out.reads
        obtain ⟨bh, yH⟩ := rdH i (by omega)
        have fH1 := fH i
        clear rdH fH
        have q5 := WFF.out.q5
        obtain ⟨y4, -⟩ := WFF.out.cellV (j := 4) rfl
        rw [(WFF.out.nets WFF.out.lt).2, WFF.out.eh] at y4
        go_wp2_with fail
        first | go_ret | go_ret2
        have WG := WFF.out.setBool HB.out (g := gH) (i := i) hgH tH true
        refine ⟨⟨⟨_, rfl⟩⟩, ⟨_, WG.a.st, ⟨by (try simp only); omega, by (try simp only); rw [p8]; omega, by (try simp only); rw [v8]; have := NV.out; omega, ⟨by (try simp only); rw [gg8, ii8]; exact HL.out.gi, by (try simp only at el); (try simp only); rw [p8, el, ss8]; exact HL.out.ls, by (try simp only); rw [ii8]; exact HL.out.ig⟩⟩⟩, WG.a.bw⟩
      · obtain rfl : nL = 0 := by omega
        have f3 : decide (((0 : Nat) : Int) > 0) = false := rfl
        have f4 : decide ((0 : Int) < ((0 : Nat) : Int)) = false := rfl
        go_wp2_with fail
        first | go_ret | go_ret2
        exact ⟨⟨⟨_, rfl⟩⟩, ⟨s, W8.out.a.st, ⟨by omega, by omega, by have := NV.out; omega, HL.out⟩⟩, W8.out.a.bw⟩
  · have o0 := ((RBox.cells W8.out.o).get 0 _ rfl).1
    have o1 := ((RBox.cells W8.out.o).get 1 _ rfl).1
    go_wp2_with fail
    refine (writes_any W8.out.a.st ⟨0, 7, op.tx, op.last, 0, 0, 0, 0, 0, 0, 0, 0, 0, 0, none, 0, 0, none, 0, 0, 0⟩ ⟨i64_0, i64_0⟩ (by omega) (by have := W8.out.a.up; have := HB.out; omega)).mono ?_
    rintro e w4 ⟨z, vR', rfl, h3, k3⟩
    go_wp2_with fail
    refine (leaves_any h3 t (by show t < s.V.length; have := W8.out.lt; omega) (Nat.le_trans HB.out (Nat.le_trans W8.out.a.up k3.size)) (by show s.V.length ≤ 1000; have := NV.out; omega)).mono ?_
    rintro e w5 ⟨rfl, ⟨v', h4⟩, b4⟩
    go_wp2_with fail
    first | go_ret | go_ret2
    refine ⟨⟨⟨_, rfl⟩⟩, ⟨_, h4, ⟨by simp <;> omega, by simp <;> omega, by have := cutAt_le s.V t; have := NV.out; (try simp only); omega, ⟨HL.out.gi, HL.out.ls, HL.out.ig⟩⟩⟩, (W8.out.a.wrote HB.out h3 k3).bw.trans b4⟩
end Go.Proofs.YtehbpmibllpkhaaGreatDoor
