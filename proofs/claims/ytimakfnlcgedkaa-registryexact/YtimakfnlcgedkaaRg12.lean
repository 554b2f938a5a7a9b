import Derived.Test.YtimakfnlcgedkaaRg11
namespace Go.Proofs.Ytimakfnlcgedkaa
open Go.RowKit Go.QK Go.Maps Go.QM Go.QR
set_option maxRecDepth 100000
def TkPost (P : Nat) (w : World) (e : Ending) (w' : World) : Prop := ∃ b m g own wh su v1 v2 v3, e = .returned (.tuple #[ptr b, v1, v2, v3, .bool true]) ∧ Tk w' w.heap.size b m g (build P own) v1 v2 v3 own wh su ∧ Hist P own wh su ∧ Below w.heap.size w w'
set_option maxHeartbeats 8000000 in
theorem taken_any (P : Nat) (xs : List (Int × Int)) (sa : Option Addr) (sc : Nat) (w : World) (hp1 : 2 ≤ P) (hp2 : P ≤ 64) (hli : Lies w sa (rowsC c2 xs)) :
    Calls Try.prog 14 #[.int .i64 (P : Int), .slice sa xs.length sc] w (TkPost P w) := by
  unfold TkPost
  have KN := fun w => new_yes P w hp1 hp2
  have KR : ∀ (n : Int) w, Calls Try.prog 8 #[.int .i64 n, .int .i64 1, .int .i64 4000] w _ := fun n w => rest_any n 1 4000 w (by omega) (by omega)
  have HLI := hide hli
  clear hli
  go_enter Try.func14, Try.ntmps14
  go_wp2_with fail
  refine (KN _).mono ?_
  rintro e w3 ⟨rfl, P3, hb, hs3⟩
  have HP3 := hide P3
  have HB3 := hide hb
  have PL := hide (show w.heap.size ≤ w.heap.size + 2 ∧ w.heap.size ≤ w.heap.size ∧ w.heap.size ≤ w.heap.size + 1 by omega)
  clear P3 hb KN hs3
  generalize w.heap.size + 2 = b at *
  obtain ⟨m, hm⟩ : ∃ m, m = w.heap.size := ⟨_, rfl⟩
  obtain ⟨g, hg⟩ : ∃ g, g = m + 1 := ⟨_, rfl⟩
  rw [← hm, ← hg] at HP3
  have PL2 := hide (show w.heap.size ≤ b ∧ w.heap.size ≤ m ∧ w.heap.size ≤ g by have := PL.out; omega)
  clear hm hg PL
  go_wp2_with (go_at_call 10; refine (num_eq _ _).mono ?_; rintro e wz ⟨rfl, rfl⟩)
  go_loopw [11, 12, 13, 14] (fun z1 z2 z3 v wr => ∃ (k : Nat) (own wh su : List (Int × Int)), v = .int .i64 (k : Int) ∧ k ≤ xs.length ∧ k ≤ 3000 ∧ own.length ≤ k ∧ Tk wr w.heap.size b m g (build P own) z1 z2 z3 own wh su ∧ Hist P own wh su ∧ Below w.heap.size w wr) (fun _ _ _ v _ => 3000 - (intOf v).toNat)
  case atStart =>
    refine ⟨0, [], [], [], rfl, Nat.zero_le _, by omega, Nat.le_refl _, ⟨HP3.out, World.ownsRow_nil _ _ _ _, World.ownsRow_nil _ _ _ _, World.ownsRow_nil _ _ _ _, ?_, ?_, ?_, ?_, ?_, ?_, PL2.out⟩, Hist.nil P, HB3.out⟩
    all_goals (intro x hx; simp [Value.ownBlock] at hx)
  case round =>
    obtain ⟨k, own, wh, su, rfl, hk1, hk2, hok, tk, hh0, hb0⟩ := hrel
    have TK := hide tk
    have HB := hide hb0
    have HH := hide hh0
    clear hh0 hb0 tk HP3 HB3
    by_cases hlt : k < xs.length
    · by_cases hlt2 : k < 3000
      · obtain ⟨bl, off, ha, hbl, hcell⟩ := Lies.rowAt c2 2 (fun _ => rfl) HLI.out k hlt (by omega)
        subst ha
        have y0 : wr.cell? ⟨bl, off + k * 2, none⟩ = some (.int .i64 xs[k].1) := (HB.out.cell (p := ⟨bl, off + k * 2, none⟩) hbl).trans (hcell 0 _ rfl)
        have y1 : wr.cell? ⟨bl, off + k * 2 + 1, none⟩ = some (.int .i64 xs[k].2) := (HB.out.cell (p := ⟨bl, off + k * 2 + 1, none⟩) hbl).trans (hcell 1 _ rfl)
        have hlt3 : bl < wr.heap.size := Nat.lt_of_lt_of_le hbl HB.out.size
        clear hcell
        have hk3 : decide ((k : Int) < 3000) = true := by simp; omega
        have hk4 : decide ((k : Int) < (xs.length : Int)) = true := by simp; omega
        go_upto_region 9 with fail
        go_cut [15] from 41 to 53 (fun v w' => ∃ F kc kg, v = ptr F ∧ Tk w' w.heap.size b m g (build P own) u11 u12 u13 own wh su ∧ Cells w' F [.int .i64 ((kc : Nat) : Int), .int .i64 ((kg : Nat) : Int)] ∧ Below w.heap.size w w' ∧ 1 ≤ kc ∧ kc ≤ 4000 ∧ 1 ≤ kg ∧ kg ≤ 4000 ∧ Under F b m g u11 u12 u13)
        case first =>
          refine wp_region_held_drew (S := fun wq => wq.cell? ⟨bl, off + k * 2, none⟩ = some (.int .i64 xs[k].1) ∧ wq.cell? ⟨bl, off + k * 2 + 1, none⟩ = some (.int .i64 xs[k].2)) (by kernel_rfl) ⟨y0, y1⟩ (fun hS => ?_)
          have TD := hide (TK.out.below (Below.refl _ _).drew)
          have BD := hide HB.out.drew
          have lt3 : bl < wr.drew.heap.size := hlt3
          clear TK HB y0 y1 hlt3
          generalize wr.drew = x0 at *
          refine take_at 0 (some 41) (v := ?_) rfl rfl (by kernel_rfl) (by kernel_rfl) (by kernel_rfl) (fun _ _ _ h => h) ⟨by rfl, ?_⟩ hS ?_
          rotate_left
          · intro wq hSw; go_simp; try rfl
          simp only [Act.put, List.setIfInBounds_toArray, List.set_cons_zero, List.set_cons_succ]
          refine take_at 1 (some 42) (v := ?_) rfl rfl (by kernel_rfl) (by kernel_rfl) (by kernel_rfl) (fun _ _ _ h => h) ⟨by rfl, ?_⟩ hS ?_
          rotate_left
          · intro wq hSw; go_simp; try rfl
          simp only [Act.put, List.setIfInBounds_toArray, List.set_cons_zero, List.set_cons_succ]
          refine take_at 2 (some 43) (v := ?_) rfl rfl (by kernel_rfl) (by kernel_rfl) (by kernel_rfl) (fun _ _ _ h => h) ⟨by rfl, ?_⟩ hS ?_
          rotate_left
          · intro wq hSw; go_simp; try rfl
          simp only [Act.put, List.setIfInBounds_toArray, List.set_cons_zero, List.set_cons_succ]
          refine take_at 3 (some 44) (v := ?_) rfl rfl (by kernel_rfl) (by kernel_rfl) (by kernel_rfl) (fun _ _ _ h => h) ⟨by rfl, ?_⟩ hS ?_
          rotate_left
          · intro wq hSw; go_simp; try rfl
          simp only [Act.put, List.setIfInBounds_toArray, List.set_cons_zero, List.set_cons_succ]
          refine take_at 4 (some 45) (v := ?_) rfl rfl (by kernel_rfl) (by kernel_rfl) (by kernel_rfl) (fun _ _ _ h => h) ⟨by rfl, ?_⟩ hS ?_
          rotate_left
          · intro wq hSw; obtain ⟨s0, s1⟩ := hSw; go_simp; try rfl
          simp only [Act.put, List.setIfInBounds_toArray, List.set_cons_zero, List.set_cons_succ]
          refine take_at 6 (some 47) (v := ?_) rfl rfl (by kernel_rfl) (by kernel_rfl) (by kernel_rfl) (fun _ _ _ h => h) ⟨by rfl, ?_⟩ hS ?_
          rotate_left
          · intro wq hSw; go_simp; try rfl
          simp only [Act.put, List.setIfInBounds_toArray, List.set_cons_zero, List.set_cons_succ]
          refine take_at 7 (some 48) (v := ?_) rfl rfl (by kernel_rfl) (by kernel_rfl) (by kernel_rfl) (fun _ _ _ h => h) ⟨by rfl, ?_⟩ hS ?_
          rotate_left
          · intro wq hSw; go_simp; try rfl
          simp only [Act.put, List.setIfInBounds_toArray, List.set_cons_zero, List.set_cons_succ]
          refine take_at 8 (some 49) (v := ?_) rfl rfl (by kernel_rfl) (by kernel_rfl) (by kernel_rfl) (fun _ _ _ h => h) ⟨by rfl, ?_⟩ hS ?_
          rotate_left
          · intro wq hSw; go_simp; try rfl
          simp only [Act.put, List.setIfInBounds_toArray, List.set_cons_zero, List.set_cons_succ]
          refine take_at 9 (some 50) (v := ?_) rfl rfl (by kernel_rfl) (by kernel_rfl) (by kernel_rfl) (fun _ _ _ h => h) ⟨by rfl, ?_⟩ hS ?_
          rotate_left
          · intro wq hSw; go_simp; try rfl
          simp only [Act.put, List.setIfInBounds_toArray, List.set_cons_zero, List.set_cons_succ]
          refine take_at 10 (some 51) (v := ?_) rfl rfl (by kernel_rfl) (by kernel_rfl) (by kernel_rfl) (fun _ _ _ h => h) ⟨by rfl, ?_⟩ hS ?_
          rotate_left
          · intro wq hSw; obtain ⟨s0, s1⟩ := hSw; go_simp; try rfl
          simp only [Act.put, List.setIfInBounds_toArray, List.set_cons_zero, List.set_cons_succ]
          have hS0 := hS
          refine wpAnyH_ready (rs := [5, 13]) (by kernel_rfl) (by simp) ?_
          refine AllReadyH.cons rfl (fun K hK => ?_) (AllReadyH.cons rfl (fun K hK => ?_) AllReadyH.nil)
          · go_simp
            go_wp2_with fail
            refine (KR _ _).mono ?_
            rintro e xw ⟨kc, rfl, kc1, kc2, hxw⟩
            rw [hxw]
            clear hxw xw
            go_wp2_with fail
            refine hK.out _ _ hS (fun hS => ?_)
            clear hK K
            (try simp only [Act.put, List.setIfInBounds_toArray, List.set_cons_zero, List.set_cons_succ])
            refine wpAnyH_ready (rs := [11, 13]) (by kernel_rfl) (by simp) ?_
            refine AllReadyH.cons rfl (fun K hK => ?_) (AllReadyH.cons rfl (fun K hK => ?_) AllReadyH.nil)
            · go_simp
              go_wp2_with fail
              refine (KR _ _).mono ?_
              rintro e xw ⟨kg, rfl, kg1, kg2, hxw⟩
              rw [hxw]
              clear hxw xw
              go_wp2_with fail
              refine hK.out _ _ hS (fun hS => ?_)
              clear hK K
              (try simp only [Act.put, List.setIfInBounds_toArray, List.set_cons_zero, List.set_cons_succ])
              refine take_at 12 (some 53) (v := ?_) rfl rfl (by kernel_rfl) (by kernel_rfl) (by kernel_rfl) (fun _ _ _ h => h) ⟨by rfl, ?_⟩ hS ?_
              rotate_left
              · intro wq hSw; go_simp; try rfl
              simp only [Act.put, List.setIfInBounds_toArray, List.set_cons_zero, List.set_cons_succ]
              refine wpAnyH_ready (rs := [13]) (by kernel_rfl) (by simp) ?_
              refine AllReadyH.cons rfl (fun K hK => ?_) AllReadyH.nil
              go_simp
              go_wp2_with fail
              refine hK.out _ _ ⟨((alloc_below x0 _).cell (p := ⟨bl, off + k * 2, none⟩) lt3).trans hS.1, ((alloc_below x0 _).cell (p := ⟨bl, off + k * 2 + 1, none⟩) lt3).trans hS.2⟩ (fun hS => ?_)
              clear hK K
              (try simp only [Act.put, List.setIfInBounds_toArray, List.set_cons_zero, List.set_cons_succ])
              refine wpAnyH_ready (rs := [14]) (by kernel_rfl) (by simp) ?_
              refine AllReadyH.cons rfl (fun K hK => ?_) AllReadyH.nil
              go_simp
              go_wp2_with fail
              refine hK.out _ _ ⟨((alloc_below x0 _).cell (p := ⟨bl, off + k * 2, none⟩) lt3).trans hS0.1, ((alloc_below x0 _).cell (p := ⟨bl, off + k * 2 + 1, none⟩) lt3).trans hS0.2⟩ (fun hS => ?_)
              clear hK K
              (try simp only [Act.put, List.setIfInBounds_toArray, List.set_cons_zero, List.set_cons_succ])
              refine wpAnyH_done (by kernel_rfl) ?_ _
              go_wp2_with fail
              go_meet
              exact ⟨_, kc, kg, rfl, TD.out.below (alloc_below _ _), Cells.new _ _ _, BD.out.alloc BD.out.size _, by omega, by omega, by omega, by omega, TD.out.under⟩
            · go_simp
              go_wp2_with fail
              refine hK.out _ _ ⟨((alloc_below x0 _).cell (p := ⟨bl, off + k * 2, none⟩) lt3).trans hS.1, ((alloc_below x0 _).cell (p := ⟨bl, off + k * 2 + 1, none⟩) lt3).trans hS.2⟩ (fun hS => ?_)
              clear hK K
              (try simp only [Act.put, List.setIfInBounds_toArray, List.set_cons_zero, List.set_cons_succ])
              refine wpAnyH_ready (rs := [11]) (by kernel_rfl) (by simp) ?_
              refine AllReadyH.cons rfl (fun K hK => ?_) AllReadyH.nil
              go_simp
              go_wp2_with fail
              refine (KR _ _).mono ?_
              rintro e xw ⟨kg, rfl, kg1, kg2, hxw⟩
              rw [hxw]
              clear hxw xw
              go_wp2_with fail
              refine hK.out _ _ hS (fun hS => ?_)
              clear hK K
              (try simp only [Act.put, List.setIfInBounds_toArray, List.set_cons_zero, List.set_cons_succ])
              refine take_at 12 (some 53) (v := ?_) rfl rfl (by kernel_rfl) (by kernel_rfl) (by kernel_rfl) (fun _ _ _ h => h) ⟨by rfl, ?_⟩ hS ?_
              rotate_left
              · intro wq hSw; go_simp; try rfl
              simp only [Act.put, List.setIfInBounds_toArray, List.set_cons_zero, List.set_cons_succ]
              refine wpAnyH_ready (rs := [14]) (by kernel_rfl) (by simp) ?_
              refine AllReadyH.cons rfl (fun K hK => ?_) AllReadyH.nil
              go_simp
              go_wp2_with fail
              refine hK.out _ _ ⟨((alloc_below x0 _).cell (p := ⟨bl, off + k * 2, none⟩) lt3).trans hS0.1, ((alloc_below x0 _).cell (p := ⟨bl, off + k * 2 + 1, none⟩) lt3).trans hS0.2⟩ (fun hS => ?_)
              clear hK K
              (try simp only [Act.put, List.setIfInBounds_toArray, List.set_cons_zero, List.set_cons_succ])
              refine wpAnyH_done (by kernel_rfl) ?_ _
              go_wp2_with fail
              go_meet
              exact ⟨_, kc, kg, rfl, TD.out.below (alloc_below _ _), Cells.new _ _ _, BD.out.alloc BD.out.size _, by omega, by omega, by omega, by omega, TD.out.under⟩
          · go_simp
            go_wp2_with fail
            refine hK.out _ _ ⟨((alloc_below x0 _).cell (p := ⟨bl, off + k * 2, none⟩) lt3).trans hS.1, ((alloc_below x0 _).cell (p := ⟨bl, off + k * 2 + 1, none⟩) lt3).trans hS.2⟩ (fun hS => ?_)
            clear hK K
            (try simp only [Act.put, List.setIfInBounds_toArray, List.set_cons_zero, List.set_cons_succ])
            refine wpAnyH_ready (rs := [5]) (by kernel_rfl) (by simp) ?_
            refine AllReadyH.cons rfl (fun K hK => ?_) AllReadyH.nil
            go_simp
            go_wp2_with fail
            refine (KR _ _).mono ?_
            rintro e xw ⟨kc, rfl, kc1, kc2, hxw⟩
            rw [hxw]
            clear hxw xw
            go_wp2_with fail
            refine hK.out _ _ hS (fun hS => ?_)
            clear hK K
            (try simp only [Act.put, List.setIfInBounds_toArray, List.set_cons_zero, List.set_cons_succ])
            refine wpAnyH_ready (rs := [11]) (by kernel_rfl) (by simp) ?_
            refine AllReadyH.cons rfl (fun K hK => ?_) AllReadyH.nil
            go_simp
            go_wp2_with fail
            refine (KR _ _).mono ?_
            rintro e xw ⟨kg, rfl, kg1, kg2, hxw⟩
            rw [hxw]
            clear hxw xw
            go_wp2_with fail
            refine hK.out _ _ hS (fun hS => ?_)
            clear hK K
            (try simp only [Act.put, List.setIfInBounds_toArray, List.set_cons_zero, List.set_cons_succ])
            refine take_at 12 (some 53) (v := ?_) rfl rfl (by kernel_rfl) (by kernel_rfl) (by kernel_rfl) (fun _ _ _ h => h) ⟨by rfl, ?_⟩ hS ?_
            rotate_left
            · intro wq hSw; go_simp; try rfl
            simp only [Act.put, List.setIfInBounds_toArray, List.set_cons_zero, List.set_cons_succ]
            refine wpAnyH_ready (rs := [14]) (by kernel_rfl) (by simp) ?_
            refine AllReadyH.cons rfl (fun K hK => ?_) AllReadyH.nil
            go_simp
            go_wp2_with fail
            refine hK.out _ _ ⟨((alloc_below x0 _).cell (p := ⟨bl, off + k * 2, none⟩) lt3).trans hS0.1, ((alloc_below x0 _).cell (p := ⟨bl, off + k * 2 + 1, none⟩) lt3).trans hS0.2⟩ (fun hS => ?_)
            clear hK K
            (try simp only [Act.put, List.setIfInBounds_toArray, List.set_cons_zero, List.set_cons_succ])
            refine wpAnyH_done (by kernel_rfl) ?_ _
            go_wp2_with fail
            go_meet
            exact ⟨_, kc, kg, rfl, TD.out.below (alloc_below _ _), Cells.new _ _ _, BD.out.alloc BD.out.size _, by omega, by omega, by omega, by omega, TD.out.under⟩
        case rest =>
          obtain ⟨F, kc, kg, rfl, tk, C5, hb5, hc1, hc2, hg1, hg2, hun⟩ := hcut
          have UF := hide hun
          clear hun
          have wl1 : wh.length ≤ 3000 := by have := HH.out.l1; omega
          have wl2 : su.length ≤ 3000 := by have := HH.out.l2; omega
          have T5 := hide tk
          have HB5 := hide hb5
          obtain ⟨f0, _⟩ := C5.get 0 _ rfl
          obtain ⟨f1, _⟩ := C5.get 1 _ rfl
          have F5 := hide C5
          clear tk hb5 C5 hk3 hk4 y0 y1 hlt3 KR TK HB
          have hin : inR (kc : Int) (kg : Int) = true := by unfold inR; simp; omega
          have KP := fun w' (h : PR w' b m g (build P own)) => plan_any b m g (build P own) (kc : Int) (kg : Int) w' h
          unfold PlanPost at KP
          by_cases hz : (build P own).planE (kc : Int) (kg : Int) = 0
          · obtain ⟨pw, hpw⟩ : ∃ x, x = (build P own).planW (kc : Int) (kg : Int) := ⟨_, rfl⟩
            obtain ⟨ps, hps⟩ : ∃ x, x = (build P own).planS (kc : Int) (kg : Int) := ⟨_, rfl⟩
            have KT := fun w' (h : PR w' b m g (build P own)) => take_any b m g (build P own) (kc : Int) (kg : Int) pw ps w' h
            unfold TakePost at KT
            obtain ⟨te, tt⟩ := takeE_yes hz hpw hps
            rw [te, tt] at KT
            have e4 := build_snoc P own ((kc : Int), (kg : Int))
            simp only at e4
            rw [← e4] at KT
            have HI := hide (HH.out.push (p := ((kc : Int), (kg : Int))) hz)
            simp only at HI
            rw [← hpw, ← hps] at HI KP
            rw [hz] at KP
            clear hz hpw hps te tt e4 HH hin
            go_upto_region 11 with (go_at_call 11; refine (KP _ T5.out.pr).mono ?_; rintro e w6 ⟨rfl, hh⟩; have T6 := hide (T5.out.below hh); have HB6 := hide (HB5.out.trans (hh.mono HB5.out.size)); have F6 := hide (F5.out.below hh); clear hh T5 HB5 F5 f0 f1 KP)
            refine named (P := Code.wp _ _ _ _) ?_
            intro w7 hw7
            obtain ⟨C1, C2, bb, sz⟩ := two_cells hw7
            have T7 := hide (T6.out.below bb)
            have HB7 := hide (HB6.out.trans (bb.mono HB6.out.size))
            have F7 := hide (F6.out.below bb)
            have UT := hide T6.out.under
            clear hw7 bb sz T6 HB6 F6
            obtain ⟨t16, ht⟩ : ∃ t, t = w6.heap.size := ⟨_, rfl⟩
            rw [← ht] at C1 C2 UT ⊢
            have HC1 := hide C1
            have HC2 := hide C2
            obtain ⟨f0, _⟩ := F7.out.get 0 _ rfl
            obtain ⟨f1, _⟩ := F7.out.get 1 _ rfl
            obtain ⟨a0, _⟩ := C1.get 0 _ rfl
            obtain ⟨a1, _⟩ := C1.get 1 _ rfl
            obtain ⟨c0, _⟩ := C2.get 0 _ rfl
            obtain ⟨c1, _⟩ := C2.get 1 _ rfl
            clear ht C1 C2
            go_wp2_with (go_at_call 10; refine (num_eq _ _).mono ?_; rintro e wz ⟨rfl, rfl⟩)
            refine (KT _ T7.out.pr).mono ?_
            rintro e w8 ⟨rfl, P8, kp⟩
            have T8 := hide (T7.out.took P8 kp)
            have HB8 := hide (HB7.out.trans (kp.below HB7.out.size (fun z hz q => by have := PL2.out; omega)))
            have UB := fun (x : Nat) => UF.out.1
            have F8 := hide (F7.out.keep kp (by have := UF.out.1; omega))
            have D1 := hide (HC1.out.keep kp (by have := UT.out.1; omega))
            have D2 := hide (HC2.out.keep kp (by have := UT.out.1; omega))
            clear P8 kp T7 HB7 KT a0 a1 c0 c1 f0 f1 HC1 HC2 F7 UB
            obtain ⟨f0, _⟩ := F8.out.get 0 _ rfl
            obtain ⟨f1, _⟩ := F8.out.get 1 _ rfl
            go_upto_region 17 with (first | (go_at_call 10; refine (num_eq _ _).mono ?_; rintro e wz ⟨rfl, rfl⟩) | (at_builtin; refine wpList_appR Try.underlying37 info44 rfl (by decide) (by decide) rfl (.tmp _) (.tmp _) rfl w.heap.size _ own.length (rowsC c2 own) rfl (GRow.below T8.out.r1 (alloc_below _ _)) (some ⟨w8.heap.size, 0, none⟩) 1 1 (c2 ((kc : Int), (kg : Int))) rfl rfl (lies_new _ _ _) (by simp [Value.oneCell']) (by nofun) (by omega) (by have := HB8.out.size; simp; omega) ?_; intro v1n w9 q1 q2 q3))
            have k9 : Keep (fun z => u11.ownBlock = some z) w8 w9 := ((Keep.of_below (S := fun z => u11.ownBlock = some z) (alloc_below w8 (.cells #[.int .i64 (kc : Int), .int .i64 (kg : Int)] 44))).trans (grown_keep q2) (fun _ _ h => h))
            have T9 := hide ((T8.out.below (alloc_below _ _)).push1 q1 q2 q3)
            have HB9 := hide (HB8.out.trans (k9.below HB8.out.size (fun z hz q => by have := (World.ownsRow.lt T8.out.r1 z q).1; omega)))
            have E1 := hide (D1.out.keep k9 (fun q => by have := UT.out.2.1 _ q; omega))
            have E2 := hide (D2.out.keep k9 (fun q => by have := UT.out.2.1 _ q; omega))
            clear q1 q2 q3 k9 T8 HB8 D1 D2 F8 f0 f1
            obtain ⟨f0, _⟩ := E1.out.get 0 _ rfl
            obtain ⟨f1, _⟩ := E1.out.get 1 _ rfl
            go_upto_region 18 with (at_builtin; refine wpList_appR Try.underlying38 info30 rfl (by decide) (by decide) rfl (.tmp _) (.tmp _) rfl w.heap.size _ wh.length (rowsC c2 wh) rfl (GRow.below T9.out.r2 (alloc_below _ _)) (some ⟨w9.heap.size, 0, none⟩) 1 1 (c2 pw) rfl rfl (lies_new _ _ _) (by simp [Value.oneCell']) (by nofun) (by omega) (by have := HB9.out.size; simp; omega) ?_; intro v2n w10 q1 q2 q3)
            have k9 : Keep (fun z => u12.ownBlock = some z) w9 w10 := ((Keep.of_below (S := fun z => u12.ownBlock = some z) (alloc_below w9 (.cells #[.int .i64 pw.1, .int .i64 pw.2] 30))).trans (grown_keep q2) (fun _ _ h => h))
            have T10 := hide ((T9.out.below (alloc_below _ _)).push2 q1 q2 q3)
            have HB10 := hide (HB9.out.trans (k9.below HB9.out.size (fun z hz q => by have := (World.ownsRow.lt T9.out.r2 z q).1; omega)))
            have G2 := hide (E2.out.keep k9 (fun q => by have := UT.out.2.2.1 _ q; omega))
            clear q1 q2 q3 k9 T9 HB9 E1 E2 f0 f1
            obtain ⟨f0, _⟩ := G2.out.get 0 _ rfl
            obtain ⟨f1, _⟩ := G2.out.get 1 _ rfl
            go_upto_region 8 with (at_builtin; refine wpList_appR Try.underlying38 info30 rfl (by decide) (by decide) rfl (.tmp _) (.tmp _) rfl w.heap.size _ su.length (rowsC c2 su) rfl (GRow.below T10.out.r3 (alloc_below _ _)) (some ⟨w10.heap.size, 0, none⟩) 1 1 (c2 ps) rfl rfl (lies_new _ _ _) (by simp [Value.oneCell']) (by nofun) (by omega) (by have := HB10.out.size; simp; omega) ?_; intro v3n w11 q1 q2 q3)
            have k9 : Keep (fun z => u13.ownBlock = some z) w10 w11 := ((Keep.of_below (S := fun z => u13.ownBlock = some z) (alloc_below w10 (.cells #[.int .i64 ps.1, .int .i64 ps.2] 30))).trans (grown_keep q2) (fun _ _ h => h))
            have T11 := hide ((T10.out.below (alloc_below _ _)).push3 q1 q2 q3)
            have HB11 := hide (HB10.out.trans (k9.below HB10.out.size (fun z hz q => by have := (World.ownsRow.lt T10.out.r3 z q).1; omega)))
            clear q1 q2 q3 k9 T10 HB10 G2 f0 f1
            go_wp2_with fail
            go_roundw
            case rel => first | exact ⟨k + 1, _, _, _, by go_num, by omega, by omega, by simp; omega, T11.out, HI.out, HB11.out⟩ | ((repeat apply Exists.intro); exact ⟨⟨k + 1, _, _, _, by go_num, by omega, by omega, by simp; omega, T11.out, HI.out, HB11.out⟩, rfl⟩)
            case measure => simp [intOf]; omega
          · have hz2 : ∃ E, (E = 121 ∨ E = 6) ∧ (build P own).planE (kc : Int) (kg : Int) = E ∧ (build P own).planW (kc : Int) (kg : Int) = (0, 0) ∧ (build P own).planS (kc : Int) (kg : Int) = (0, 0) := by
              have e2 : (build P own).planW (kc : Int) (kg : Int) = (0, 0) := by unfold Reg.planW; rw [if_neg hz]
              have e3 : (build P own).planS (kc : Int) (kg : Int) = (0, 0) := by unfold Reg.planS; rw [if_neg hz]
              rcases planE_cases (build P own) (kc : Int) (kg : Int) with q | q | q | q
              · unfold Reg.planE at q
                rw [if_neg (by rw [hin]; simp)] at q
                split at q
                · cases q
                · split at q <;> cases q
              · exact ⟨121, .inl rfl, q, e2, e3⟩
              · exact ⟨6, .inr rfl, q, e2, e3⟩
              · exact absurd q hz
            obtain ⟨E, hE, e1, e2, e3⟩ := hz2
            rw [e1, e2, e3] at KP
            clear e1 e2 e3 hz hin
            rcases hE with rfl | rfl
            all_goals
              go_upto_region 11 with (go_at_call 11; refine (KP _ T5.out.pr).mono ?_; rintro e w6 ⟨rfl, hh⟩; have T6 := hide (T5.out.below hh); have HB6 := hide (HB5.out.trans (hh.mono HB5.out.size)); clear hh T5 HB5 F5 f0 f1 KP)
              refine named (P := Code.wp _ _ _ _) ?_
              intro w7 hw7
              obtain ⟨C1, C2, bb, sz⟩ := two_cells hw7
              have T7 := hide (T6.out.below bb)
              have HB7 := hide (HB6.out.trans (bb.mono HB6.out.size))
              clear hw7 bb sz T6 HB6
              obtain ⟨a0, _⟩ := C1.get 0 _ rfl
              obtain ⟨a1, _⟩ := C1.get 1 _ rfl
              obtain ⟨c0, _⟩ := C2.get 0 _ rfl
              obtain ⟨c1, _⟩ := C2.get 1 _ rfl
              clear C1 C2
              go_wp2_with (go_at_call 10; refine (num_eq _ _).mono ?_; rintro e wz ⟨rfl, rfl⟩)
              go_roundw
              case rel => first | exact ⟨k + 1, _, _, _, by go_num, by omega, by omega, by omega, T7.out, HH.out, HB7.out⟩ | ((repeat apply Exists.intro); exact ⟨⟨k + 1, _, _, _, by go_num, by omega, by omega, by omega, T7.out, HH.out, HB7.out⟩, rfl⟩)
              case measure => simp [intOf]; omega
      · go_wp2_with fail
        refine bodyPost_ret (v := .tuple #[ptr b, u11, u12, u13, .bool true]) (by simp [results, Try.results14, go_sem]) rfl ?_
        exact ⟨b, m, g, own, wh, su, u11, u12, u13, rfl, TK.out, HH.out, HB.out⟩
    · go_wp2_with fail
      refine bodyPost_ret (v := .tuple #[ptr b, u11, u12, u13, .bool true]) (by simp [results, Try.results14, go_sem]) rfl ?_
      exact ⟨b, m, g, own, wh, su, u11, u12, u13, rfl, TK.out, HH.out, HB.out⟩
end Go.Proofs.Ytimakfnlcgedkaa
