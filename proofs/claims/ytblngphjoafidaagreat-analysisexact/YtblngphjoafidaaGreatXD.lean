import Derived.Test.YtblngphjoafidaaGreatXC
import Derived.Test.YtblngphjoafidaaGreatTake
import Derived.Test.YtblngphjoafidaaGreatHold
set_option linter.all false
namespace Go.Proofs.YtblngphjoafidaaGreat
open Go.RowKit Go.QK Go.Maps Go.QM Go.QT
set_option maxRecDepth 100000
set_option maxHeartbeats 16000000 in
theorem lent_any (xs : List RX) (a : Option Addr) (N c : Nat) (w : World) (h : RecsAt w a xs) (hn : N = xs.length) (hN : N ≤ 1000) (hx : ∀ x ∈ xs, Fine x ∧ x.r.live.length ≤ 60 ∧ x.r.dirty.length ≤ 60) :
    Calls Tryz.prog 6 #[.slice a N c] w fun e w' => ∃ (a' : Option Addr) (c' : Nat) (zs : List RX), e = .returned (.slice a' N c') ∧ zs.length = N ∧ rsOf zs = rsOf xs ∧ Lnt w' w.heap.size a' c' zs ∧ Below w.heap.size w w' := by
  have HX := hide h
  have HN := hide hn
  have HF := hide hx
  clear h hn hx
  go_enter Tryz.func6, Tryz.ntmps6
  go_wp2_with fail
  go_loopw [3, 4] (fun o v wz => ∃ (k : Nat) (zs : List RX), v = .int .i64 (k : Int) ∧ k ≤ N ∧ zs.length = k ∧ GRow wz w.heap.size 55 17 o k (rowsC rxC zs) ∧ (∀ z ∈ zs, LentX wz w.heap.size z) ∧ rsOf zs = (rsOf xs).take k ∧ Below w.heap.size w wz) (fun _ v _ => N + 1 - (intOf v).toNat)
  case atStart => exact ⟨0, [], rfl, Nat.zero_le _, rfl, World.ownsRow_nil _ _ _ _, (fun z hz => by cases hz), (by simp [rsOf]), Below.refl _ _⟩
  case round =>
    obtain ⟨k, zs, rfl, hk, hz, hG, hL, hR, hb⟩ := hrel
    obtain ⟨oa, oc, rfl, -⟩ := GRow.lies hG
    have G0 := hide hG
    have B0 := hide hb
    have L0 := hide hL
    have R0 := hide hR
    have Z0 := hide hz
    clear hG hb hL hR hz
    by_cases hkm : k < N
    · have hkx : k < xs.length := by have := HN.out; omega
      obtain ⟨sb, so, rfl, slt, sel⟩ := Lies.rowAt rxC 17 (fun _ => rfl) (HX.out.below B0.out).row k hkx (by decide)
      have FX := hide (HF.out xs[k] (List.getElem_mem hkx))
      have IX := hide ((HX.out.below B0.out).each xs[k] (List.getElem_mem hkx))
      have YK := hide (show (rsOf xs).take (k + 1) = (rsOf xs).take k ++ [xs[k].r] by rw [List.take_succ_eq_append_getElem (by simp; omega)]; simp)
      generalize xs[k] = x at *
      have SLT := hide slt
      have SEL := hide (show ∀ wz, Below wr.heap.size wr wz → ∀ j v, (rxC x)[j]? = some v → wz.cell? ⟨sb, so + k * 17 + j, none⟩ = some v from fun wz hb j v hv => (hb.cell (p := ⟨sb, so + k * 17 + j, none⟩) slt).trans (sel j v hv))
      obtain ⟨RA, hRA⟩ : ∃ A, A = rxA x := ⟨_, rfl⟩
      have SR := hide (show RA.size = 17 by rw [hRA]; rfl)
      have RC := hide (show ∀ j v, RA.toList[j]? = some v → wr.cell? ⟨sb, so + k * 17 + j, none⟩ = some v from fun j v hv => by rw [hRA] at hv; exact sel j v hv)
      have HRA := hide hRA
      clear hRA sel slt
      have e1 : decide ((k : Int) < (N : Int)) = true := decide_eq_true (by omega)
      have b3 : (k : Int) < (N : Int) := by omega
      go_wp2_with (refine wpList_ld46At RC.out SR.out rfl ?_)
      rw [HRA.out]
      have nil1 : x.la = none → x.lc = 0 ∧ x.r.live.length = 0 := fun q => by have := FX.out.1.ln q; have := FX.out.1.ll; omega
      have nil2 : x.da = none → x.dc = 0 ∧ x.r.dirty.length = 0 := fun q => by have := FX.out.1.dn q; have := FX.out.1.dl; omega
      have C1 := Own_any x.r x.la x.da x.lc x.dc wr IX.out.li IX.out.di nil1 nil2 (by have := FX.out.2.1; omega) (by have := FX.out.2.2; omega)
      clear nil1 nil2
      refine C1.mono ?_
      clear C1
      rintro e w1 ⟨v1, rfl, ⟨la1, da1, lc1, dc1, rfl, o1, o2, -⟩, b1⟩
      have HTX := hide IX.out.tx
      have Hnl := hide (show x.r.live.length ≤ 1000 by have := FX.out.2.1; omega)
      have Hnd := hide (show x.r.dirty.length ≤ 1000 by have := FX.out.2.2; omega)
      clear IX FX RC SR HRA
      obtain ⟨RB, hRB⟩ : ∃ A, A = recC x.r la1 lc1 da1 dc1 := ⟨_, rfl⟩
      have SR := hide (show RB.size = 17 by rw [hRB]; rfl)
      have ON := hide (show RB.toList.all (·.oneCell') = true by rw [hRB]; rfl)
      rw [← hRB]
      have HRB := hide hRB
      clear hRB
      go_upto_region 6 with (refine wpList_store36 (cs := rec0) (RBox.new _ _ _) rfl SR.out ON.out rfl rfl ?_; intro w2 hb2 hk2)
      have B2 := hide (show Below w1.heap.size w1 w2 from newBox hk2)
      rw [HRB.out] at hb2
      clear SR ON HRB hk2
      have LD := hide (show Ld w2 wr.heap.size w1.heap.size x.r la1 x.r.live.length lc1 da1 x.r.dirty.length dc1 [] [] from ⟨hb2, by simpa using GRow.below o1 B2.out, by simpa using GRow.below o2 B2.out, rfl, rfl, b1.size, Nat.le_trans b1.size B2.out.size⟩)
      have BW := hide (show Below wr.heap.size wr w2 from b1.trans (B2.out.mono b1.size))
      clear hb2 o1 o2 B2 b1
      obtain ⟨bx, hbx⟩ : ∃ z, z = w1.heap.size := ⟨_, rfl⟩
      rw [← hbx] at LD ⊢
      clear hbx
      obtain ⟨nl, hnl⟩ : ∃ z, z = x.r.live.length := ⟨_, rfl⟩
      obtain ⟨nd, hnd⟩ : ∃ z, z = x.r.dirty.length := ⟨_, rfl⟩
      rw [← hnl] at LD Hnl
      rw [← hnd] at LD Hnd
      have Hnl2 := hide hnl
      have Hnd2 := hide hnd
      have Hnl1 := hide hnl
      have Hnd1 := hide hnd
      clear hnl hnd
      have dr : Below w2.heap.size w2 w2.drew := (Below.refl _ _).drew
      have LE := LD.out.below dr
      have BE := hide (show Below wr.heap.size wr w2.drew from BW.out.drew)
      obtain ⟨g5, c5, w5, hrun, hc, X5, L6, B6⟩ := LE.live 31 Hnl.out
      obtain ⟨xa, hxa⟩ : ∃ z, z = x.la := ⟨_, rfl⟩
      obtain ⟨xc, hxc⟩ : ∃ z, z = x.lc := ⟨_, rfl⟩
      obtain ⟨nn, hnn⟩ : ∃ z : Nat, z = nl := ⟨_, rfl⟩
      have AX := alloc_below w2.drew (.cells #[.int .i64 23130, .int .i64 0, .bool false, .bool false] 58)
      have BA : Below wr.heap.size wr (w2.drew.alloc (.cells #[.int .i64 23130, .int .i64 0, .bool false, .bool false] 58)) := BE.out.trans (AX.mono BE.out.size)
      have q0 := SEL.out w2.drew BE.out 14 (.slice xa nn xc) (by rw [hxa, hxc, hnn, Hnl2.out]; rfl)
      have q1 := SEL.out _ BA 14 (.slice xa nn xc) (by rw [hxa, hxc, hnn, Hnl2.out]; rfl)
      have q3 := SEL.out (w5.setCell ⟨bx, 14, none⟩ (.slice (some ⟨g5, 0, none⟩) nl c5)) (BE.out.trans B6) 14 (.slice xa nn xc) (by rw [hxa, hxc, hnn, Hnl2.out]; rfl)
      have q2 : w5.cell? ⟨sb, so + k * 17 + 14, none⟩ = some (.slice xa nn xc) := by
        rw [← q3]; exact (World.cell?_of_block (w := w5) (a := ⟨sb, so + k * 17 + 14, none⟩) (Below.heap_setCell w5 ⟨bx, 14, none⟩ _ sb (by have := LD.out.bb; have := SLT.out; intro e; (try simp at e); omega))).symm
      have SX := hide (And.intro q0 (And.intro q1 (And.intro q2 q3)))
      have CX := hide (And.intro (LE.box.cells.get 14 (.slice la1 nl lc1) (by rw [Hnl1.out]; rfl)).1 ((LE.box.below AX).cells.get 14 (.slice la1 nl lc1) (by rw [Hnl1.out]; rfl)).1)
      obtain ⟨xz, xf⟩ := X5.cells.get 14 (.slice la1 nl lc1) (by rw [Hnl1.out]; rfl)
      have s1 := fun wq => slice31 (a := some ⟨g5, 0, none⟩) (n := nl + 1) (cap := c5) nl wq hc nofun
      have LD2 := hide L6
      have BW2 := hide (BE.out.trans B6)
      have HRUN := hide hrun
      have en : nn = nl := hnn
      rw [en] at SX
      clear hxa hxc hnn en q0 q1 q2 q3 AX BA BE LE dr hrun hc X5 L6 B6 LD BW
      (try simp only [Act.put])
      go_cut [30] (fun _ w' => w' = (w5.setCell ⟨bx, 14, none⟩ (.slice (some ⟨g5, 0, none⟩) nl c5)))
      case first =>
        refine wp_region_held_drew (S := fun wq => wq.cell? ⟨sb, so + k * 17 + 14, none⟩ = some (.slice xa nl xc)) (by kernel_rfl) SX.out.1 (fun hS => ?_)
        generalize w2.drew = we at *
        refine take_at 0 (some 17) (v := ?_) rfl rfl (by kernel_rfl) (by kernel_rfl) (by kernel_rfl) (fun _ _ _ h => h) ⟨by rfl, ?_⟩ hS ?_
        rotate_left
        · intro wq hSw; go_simp; try rfl
        simp only [Act.put, List.setIfInBounds_toArray, List.set_cons_zero, List.set_cons_succ]
        refine take_at 1 (some 18) (v := ?_) rfl rfl (by kernel_rfl) (by kernel_rfl) (by kernel_rfl) (fun _ _ _ h => h) ⟨by rfl, ?_⟩ hS ?_
        rotate_left
        · intro wq hSw; go_simp; try rfl
        simp only [Act.put, List.setIfInBounds_toArray, List.set_cons_zero, List.set_cons_succ]
        refine take_at 3 (some 20) (v := ?_) rfl rfl (by kernel_rfl) (by kernel_rfl) (by kernel_rfl) (fun _ _ _ h => h) ⟨by rfl, ?_⟩ hS ?_
        rotate_left
        · intro wq hSw; go_simp; try rfl
        simp only [Act.put, List.setIfInBounds_toArray, List.set_cons_zero, List.set_cons_succ]
        refine take_at 6 (some 23) (v := ?_) rfl rfl (by kernel_rfl) (by kernel_rfl) (by kernel_rfl) (fun _ _ _ h => h) ⟨by rfl, ?_⟩ hS ?_
        rotate_left
        · intro wq hSw; go_simp; try rfl
        simp only [Act.put, List.setIfInBounds_toArray, List.set_cons_zero, List.set_cons_succ]
        refine take_at 7 (some 24) (v := ?_) rfl rfl (by kernel_rfl) (by kernel_rfl) (by kernel_rfl) (fun _ _ _ h => h) ⟨by rfl, ?_⟩ hS ?_
        rotate_left
        · intro wq hSw; go_simp; try rfl
        simp only [Act.put, List.setIfInBounds_toArray, List.set_cons_zero, List.set_cons_succ]
        refine take_at 8 (some 25) (v := ?_) rfl rfl (by kernel_rfl) (by kernel_rfl) (by kernel_rfl) (fun _ _ _ h => h) ⟨by rfl, ?_⟩ hS ?_
        rotate_left
        · intro wq hSw; go_simp; try rfl
        simp only [Act.put, List.setIfInBounds_toArray, List.set_cons_zero, List.set_cons_succ]
        refine take_at 9 (some 26) (v := ?_) rfl rfl (by kernel_rfl) (by kernel_rfl) (by kernel_rfl) (fun _ _ _ h => h) ⟨by rfl, ?_⟩ hS ?_
        rotate_left
        · intro wq hSw; go_simp; try rfl
        simp only [Act.put, List.setIfInBounds_toArray, List.set_cons_zero, List.set_cons_succ]
        refine take_at 10 (some 27) (v := ?_) rfl rfl (by kernel_rfl) (by kernel_rfl) (by kernel_rfl) (fun _ _ _ h => h) ⟨by rfl, ?_⟩ hS ?_
        rotate_left
        · intro wq hSw; go_simp; try rfl
        simp only [Act.put, List.setIfInBounds_toArray, List.set_cons_zero, List.set_cons_succ]
        refine take_at 11 (some 28) (v := ?_) rfl rfl (by kernel_rfl) (by kernel_rfl) (by kernel_rfl) (fun _ _ _ h => h) ⟨by rfl, ?_⟩ hS ?_
        rotate_left
        · intro wq hSw; have y0 := hSw; go_simp; try rfl
        simp only [Act.put, List.setIfInBounds_toArray, List.set_cons_zero, List.set_cons_succ]
        refine take_at 12 (some 29) (v := ?_) rfl rfl (by kernel_rfl) (by kernel_rfl) (by kernel_rfl) (fun _ _ _ h => h) ⟨by rfl, ?_⟩ hS ?_
        rotate_left
        · intro wq hSw; go_simp; try rfl
        simp only [Act.put, List.setIfInBounds_toArray, List.set_cons_zero, List.set_cons_succ]
        refine wpAnyH_ready (rs := [2, 4]) (by kernel_rfl) (by simp) ?_
        refine AllReadyH.cons rfl (fun K hK => ?_) (AllReadyH.cons rfl (fun K hK => ?_) AllReadyH.nil)
        · have cl := CX.out.1
          go_simp
          go_wp2_with fail
          refine hK.out _ _ SX.out.1 (fun hS => ?_)
          clear hK K
          (try simp only [Act.put, List.setIfInBounds_toArray, List.set_cons_zero, List.set_cons_succ])
          clear cl
          refine wpAnyH_ready (rs := [4]) (by kernel_rfl) (by simp) ?_
          refine AllReadyH.cons rfl (fun K hK => ?_) AllReadyH.nil
          go_simp
          (try go_wp2_with fail)
          refine hK.out _ _ SX.out.2.1 (fun hS => ?_)
          clear hK K
          (try simp only [Act.put, List.setIfInBounds_toArray, List.set_cons_zero, List.set_cons_succ])
          refine wpAnyH_ready (rs := [5]) (by kernel_rfl) (by simp) ?_
          refine AllReadyH.cons rfl (fun K hK => ?_) AllReadyH.nil
          refine wp_run 22 (.tmp 19) (.tmp 21) rfl rfl rfl rfl rfl HRUN.out ?_
          refine hK.out _ _ SX.out.2.2.1 (fun hS => ?_)
          clear hK K
          (try simp only [Act.put, List.setIfInBounds_toArray, List.set_cons_zero, List.set_cons_succ])
          refine take_at 13 (some 30) (v := ?_) rfl rfl (by kernel_rfl) (by kernel_rfl) (by kernel_rfl) (fun _ _ _ h => h) ⟨by rfl, ?_⟩ hS ?_
          rotate_left
          · intro wq hSw; go_simp; try rfl
          simp only [Act.put, List.setIfInBounds_toArray, List.set_cons_zero, List.set_cons_succ]
          refine take_at 14 (some 31) (v := ?_) rfl rfl (by kernel_rfl) (by kernel_rfl) (by kernel_rfl) (fun _ _ _ h => h) ⟨by rfl, ?_⟩ hS ?_
          rotate_left
          · intro wq hSw; go_simp; try rfl
          simp only [Act.put, List.setIfInBounds_toArray, List.set_cons_zero, List.set_cons_succ]
          refine take_at 15 (some 32) (v := ?_) rfl rfl (by kernel_rfl) (by kernel_rfl) (by kernel_rfl) (fun _ _ _ h => h) ⟨by rfl, ?_⟩ hS ?_
          rotate_left
          · intro wq hSw; go_simp; try rfl
          simp only [Act.put, List.setIfInBounds_toArray, List.set_cons_zero, List.set_cons_succ]
          refine wpAnyH_ready (rs := [16]) (by kernel_rfl) (by simp) ?_
          refine AllReadyH.cons rfl (fun K hK => ?_) AllReadyH.nil
          go_simp
          go_wp2_with fail
          refine hK.out _ _ SX.out.2.2.2 (fun hS => ?_)
          clear hK K
          (try simp only [Act.put, List.setIfInBounds_toArray, List.set_cons_zero, List.set_cons_succ])
          refine wpAnyH_done (by kernel_rfl) ?_ _
          go_wp2_with fail
          go_meet
          first | rfl | exact rfl
        · go_simp
          (try go_wp2_with fail)
          refine hK.out _ _ SX.out.2.1 (fun hS => ?_)
          clear hK K
          (try simp only [Act.put, List.setIfInBounds_toArray, List.set_cons_zero, List.set_cons_succ])
          refine wpAnyH_ready (rs := [2]) (by kernel_rfl) (by simp) ?_
          refine AllReadyH.cons rfl (fun K hK => ?_) AllReadyH.nil
          have cl := CX.out.2
          go_simp
          go_wp2_with fail
          refine hK.out _ _ SX.out.2.1 (fun hS => ?_)
          clear hK K
          (try simp only [Act.put, List.setIfInBounds_toArray, List.set_cons_zero, List.set_cons_succ])
          clear cl
          refine wpAnyH_ready (rs := [5]) (by kernel_rfl) (by simp) ?_
          refine AllReadyH.cons rfl (fun K hK => ?_) AllReadyH.nil
          refine wp_run 22 (.tmp 19) (.tmp 21) rfl rfl rfl rfl rfl HRUN.out ?_
          refine hK.out _ _ SX.out.2.2.1 (fun hS => ?_)
          clear hK K
          (try simp only [Act.put, List.setIfInBounds_toArray, List.set_cons_zero, List.set_cons_succ])
          refine take_at 13 (some 30) (v := ?_) rfl rfl (by kernel_rfl) (by kernel_rfl) (by kernel_rfl) (fun _ _ _ h => h) ⟨by rfl, ?_⟩ hS ?_
          rotate_left
          · intro wq hSw; go_simp; try rfl
          simp only [Act.put, List.setIfInBounds_toArray, List.set_cons_zero, List.set_cons_succ]
          refine take_at 14 (some 31) (v := ?_) rfl rfl (by kernel_rfl) (by kernel_rfl) (by kernel_rfl) (fun _ _ _ h => h) ⟨by rfl, ?_⟩ hS ?_
          rotate_left
          · intro wq hSw; go_simp; try rfl
          simp only [Act.put, List.setIfInBounds_toArray, List.set_cons_zero, List.set_cons_succ]
          refine take_at 15 (some 32) (v := ?_) rfl rfl (by kernel_rfl) (by kernel_rfl) (by kernel_rfl) (fun _ _ _ h => h) ⟨by rfl, ?_⟩ hS ?_
          rotate_left
          · intro wq hSw; go_simp; try rfl
          simp only [Act.put, List.setIfInBounds_toArray, List.set_cons_zero, List.set_cons_succ]
          refine wpAnyH_ready (rs := [16]) (by kernel_rfl) (by simp) ?_
          refine AllReadyH.cons rfl (fun K hK => ?_) AllReadyH.nil
          go_simp
          go_wp2_with fail
          refine hK.out _ _ SX.out.2.2.2 (fun hS => ?_)
          clear hK K
          (try simp only [Act.put, List.setIfInBounds_toArray, List.set_cons_zero, List.set_cons_succ])
          refine wpAnyH_done (by kernel_rfl) ?_ _
          go_wp2_with fail
          go_meet
          first | rfl | exact rfl
      case rest =>
        obtain ⟨wn, hwn⟩ : ∃ z, z = (w5.setCell ⟨bx, 14, none⟩ (.slice (some ⟨g5, 0, none⟩) nl c5)) := ⟨_, rfl⟩
        rw [← hwn] at hcut LD2 BW2
        clear hwn xz xf HRUN CX SX s1
        obtain rfl : wn = wc := hcut.symm
        clear hcut
        obtain ⟨w3, rfl⟩ : ∃ z : World, z = wn := ⟨_, rfl⟩
        have LD := LD2
        have BW := BW2
        clear LD2 BW2
        go_upto_region 7 with fail
        have dr : Below w3.heap.size w3 w3.drew := (Below.refl _ _).drew
        have LE := LD.out.below dr
        have BE := hide (show Below wr.heap.size wr w3.drew from BW.out.drew)
        obtain ⟨g6, c6, w6, hrun, hc, X5, L6, B6⟩ := LE.dirty 32 Hnd.out
        obtain ⟨xa, hxa⟩ : ∃ z, z = x.da := ⟨_, rfl⟩
        obtain ⟨xc, hxc⟩ : ∃ z, z = x.dc := ⟨_, rfl⟩
        obtain ⟨nn, hnn⟩ : ∃ z : Nat, z = nd := ⟨_, rfl⟩
        have AX := alloc_below w3.drew (.cells #[.int .i64 23130, .int .i64 0] 60)
        have BA : Below wr.heap.size wr (w3.drew.alloc (.cells #[.int .i64 23130, .int .i64 0] 60)) := BE.out.trans (AX.mono BE.out.size)
        have q0 := SEL.out w3.drew BE.out 15 (.slice xa nn xc) (by rw [hxa, hxc, hnn, Hnd2.out]; rfl)
        have q1 := SEL.out _ BA 15 (.slice xa nn xc) (by rw [hxa, hxc, hnn, Hnd2.out]; rfl)
        have q3 := SEL.out (w6.setCell ⟨bx, 15, none⟩ (.slice (some ⟨g6, 0, none⟩) nd c6)) (BE.out.trans B6) 15 (.slice xa nn xc) (by rw [hxa, hxc, hnn, Hnd2.out]; rfl)
        have q2 : w6.cell? ⟨sb, so + k * 17 + 15, none⟩ = some (.slice xa nn xc) := by
          rw [← q3]; exact (World.cell?_of_block (w := w6) (a := ⟨sb, so + k * 17 + 15, none⟩) (Below.heap_setCell w6 ⟨bx, 15, none⟩ _ sb (by have := LD.out.bb; have := SLT.out; intro e; (try simp at e); omega))).symm
        have SX := hide (And.intro q0 (And.intro q1 (And.intro q2 q3)))
        have CX := hide (And.intro (LE.box.cells.get 15 (.slice da1 nd dc1) (by rw [Hnd1.out]; rfl)).1 ((LE.box.below AX).cells.get 15 (.slice da1 nd dc1) (by rw [Hnd1.out]; rfl)).1)
        obtain ⟨xz, xf⟩ := X5.cells.get 15 (.slice da1 nd dc1) (by rw [Hnd1.out]; rfl)
        have s1 := fun wq => slice32 (a := some ⟨g6, 0, none⟩) (n := nd + 1) (cap := c6) nd wq hc nofun
        have LD2 := hide L6
        have BW2 := hide (BE.out.trans B6)
        have HRUN := hide hrun
        have en : nn = nd := hnn
        rw [en] at SX
        clear hxa hxc hnn en q0 q1 q2 q3 AX BA BE LE dr hrun hc X5 L6 B6 LD BW
        (try simp only [Act.put])
        go_cut [46] (fun _ w' => w' = (w6.setCell ⟨bx, 15, none⟩ (.slice (some ⟨g6, 0, none⟩) nd c6)))
        case first =>
          refine wp_region_held_drew (S := fun wq => wq.cell? ⟨sb, so + k * 17 + 15, none⟩ = some (.slice xa nd xc)) (by kernel_rfl) SX.out.1 (fun hS => ?_)
          generalize w3.drew = we at *
          refine take_at 0 (some 33) (v := ?_) rfl rfl (by kernel_rfl) (by kernel_rfl) (by kernel_rfl) (fun _ _ _ h => h) ⟨by rfl, ?_⟩ hS ?_
          rotate_left
          · intro wq hSw; go_simp; try rfl
          simp only [Act.put, List.setIfInBounds_toArray, List.set_cons_zero, List.set_cons_succ]
          refine take_at 1 (some 34) (v := ?_) rfl rfl (by kernel_rfl) (by kernel_rfl) (by kernel_rfl) (fun _ _ _ h => h) ⟨by rfl, ?_⟩ hS ?_
          rotate_left
          · intro wq hSw; go_simp; try rfl
          simp only [Act.put, List.setIfInBounds_toArray, List.set_cons_zero, List.set_cons_succ]
          refine take_at 3 (some 36) (v := ?_) rfl rfl (by kernel_rfl) (by kernel_rfl) (by kernel_rfl) (fun _ _ _ h => h) ⟨by rfl, ?_⟩ hS ?_
          rotate_left
          · intro wq hSw; go_simp; try rfl
          simp only [Act.put, List.setIfInBounds_toArray, List.set_cons_zero, List.set_cons_succ]
          refine take_at 6 (some 39) (v := ?_) rfl rfl (by kernel_rfl) (by kernel_rfl) (by kernel_rfl) (fun _ _ _ h => h) ⟨by rfl, ?_⟩ hS ?_
          rotate_left
          · intro wq hSw; go_simp; try rfl
          simp only [Act.put, List.setIfInBounds_toArray, List.set_cons_zero, List.set_cons_succ]
          refine take_at 7 (some 40) (v := ?_) rfl rfl (by kernel_rfl) (by kernel_rfl) (by kernel_rfl) (fun _ _ _ h => h) ⟨by rfl, ?_⟩ hS ?_
          rotate_left
          · intro wq hSw; go_simp; try rfl
          simp only [Act.put, List.setIfInBounds_toArray, List.set_cons_zero, List.set_cons_succ]
          refine take_at 8 (some 41) (v := ?_) rfl rfl (by kernel_rfl) (by kernel_rfl) (by kernel_rfl) (fun _ _ _ h => h) ⟨by rfl, ?_⟩ hS ?_
          rotate_left
          · intro wq hSw; go_simp; try rfl
          simp only [Act.put, List.setIfInBounds_toArray, List.set_cons_zero, List.set_cons_succ]
          refine take_at 9 (some 42) (v := ?_) rfl rfl (by kernel_rfl) (by kernel_rfl) (by kernel_rfl) (fun _ _ _ h => h) ⟨by rfl, ?_⟩ hS ?_
          rotate_left
          · intro wq hSw; go_simp; try rfl
          simp only [Act.put, List.setIfInBounds_toArray, List.set_cons_zero, List.set_cons_succ]
          refine take_at 10 (some 43) (v := ?_) rfl rfl (by kernel_rfl) (by kernel_rfl) (by kernel_rfl) (fun _ _ _ h => h) ⟨by rfl, ?_⟩ hS ?_
          rotate_left
          · intro wq hSw; go_simp; try rfl
          simp only [Act.put, List.setIfInBounds_toArray, List.set_cons_zero, List.set_cons_succ]
          refine take_at 11 (some 44) (v := ?_) rfl rfl (by kernel_rfl) (by kernel_rfl) (by kernel_rfl) (fun _ _ _ h => h) ⟨by rfl, ?_⟩ hS ?_
          rotate_left
          · intro wq hSw; have y0 := hSw; go_simp; try rfl
          simp only [Act.put, List.setIfInBounds_toArray, List.set_cons_zero, List.set_cons_succ]
          refine take_at 12 (some 45) (v := ?_) rfl rfl (by kernel_rfl) (by kernel_rfl) (by kernel_rfl) (fun _ _ _ h => h) ⟨by rfl, ?_⟩ hS ?_
          rotate_left
          · intro wq hSw; go_simp; try rfl
          simp only [Act.put, List.setIfInBounds_toArray, List.set_cons_zero, List.set_cons_succ]
          refine wpAnyH_ready (rs := [2, 4]) (by kernel_rfl) (by simp) ?_
          refine AllReadyH.cons rfl (fun K hK => ?_) (AllReadyH.cons rfl (fun K hK => ?_) AllReadyH.nil)
          · have cl := CX.out.1
            go_simp
            go_wp2_with fail
            refine hK.out _ _ SX.out.1 (fun hS => ?_)
            clear hK K
            (try simp only [Act.put, List.setIfInBounds_toArray, List.set_cons_zero, List.set_cons_succ])
            clear cl
            refine wpAnyH_ready (rs := [4]) (by kernel_rfl) (by simp) ?_
            refine AllReadyH.cons rfl (fun K hK => ?_) AllReadyH.nil
            go_simp
            (try go_wp2_with fail)
            refine hK.out _ _ SX.out.2.1 (fun hS => ?_)
            clear hK K
            (try simp only [Act.put, List.setIfInBounds_toArray, List.set_cons_zero, List.set_cons_succ])
            refine wpAnyH_ready (rs := [5]) (by kernel_rfl) (by simp) ?_
            refine AllReadyH.cons rfl (fun K hK => ?_) AllReadyH.nil
            refine wp_run 38 (.tmp 35) (.tmp 37) rfl rfl rfl rfl rfl HRUN.out ?_
            refine hK.out _ _ SX.out.2.2.1 (fun hS => ?_)
            clear hK K
            (try simp only [Act.put, List.setIfInBounds_toArray, List.set_cons_zero, List.set_cons_succ])
            refine take_at 13 (some 46) (v := ?_) rfl rfl (by kernel_rfl) (by kernel_rfl) (by kernel_rfl) (fun _ _ _ h => h) ⟨by rfl, ?_⟩ hS ?_
            rotate_left
            · intro wq hSw; go_simp; try rfl
            simp only [Act.put, List.setIfInBounds_toArray, List.set_cons_zero, List.set_cons_succ]
            refine take_at 14 (some 47) (v := ?_) rfl rfl (by kernel_rfl) (by kernel_rfl) (by kernel_rfl) (fun _ _ _ h => h) ⟨by rfl, ?_⟩ hS ?_
            rotate_left
            · intro wq hSw; go_simp; try rfl
            simp only [Act.put, List.setIfInBounds_toArray, List.set_cons_zero, List.set_cons_succ]
            refine take_at 15 (some 48) (v := ?_) rfl rfl (by kernel_rfl) (by kernel_rfl) (by kernel_rfl) (fun _ _ _ h => h) ⟨by rfl, ?_⟩ hS ?_
            rotate_left
            · intro wq hSw; go_simp; try rfl
            simp only [Act.put, List.setIfInBounds_toArray, List.set_cons_zero, List.set_cons_succ]
            refine wpAnyH_ready (rs := [16]) (by kernel_rfl) (by simp) ?_
            refine AllReadyH.cons rfl (fun K hK => ?_) AllReadyH.nil
            go_simp
            go_wp2_with fail
            refine hK.out _ _ SX.out.2.2.2 (fun hS => ?_)
            clear hK K
            (try simp only [Act.put, List.setIfInBounds_toArray, List.set_cons_zero, List.set_cons_succ])
            refine wpAnyH_done (by kernel_rfl) ?_ _
            go_wp2_with fail
            go_meet
            first | rfl | exact rfl
          · go_simp
            (try go_wp2_with fail)
            refine hK.out _ _ SX.out.2.1 (fun hS => ?_)
            clear hK K
            (try simp only [Act.put, List.setIfInBounds_toArray, List.set_cons_zero, List.set_cons_succ])
            refine wpAnyH_ready (rs := [2]) (by kernel_rfl) (by simp) ?_
            refine AllReadyH.cons rfl (fun K hK => ?_) AllReadyH.nil
            have cl := CX.out.2
            go_simp
            go_wp2_with fail
            refine hK.out _ _ SX.out.2.1 (fun hS => ?_)
            clear hK K
            (try simp only [Act.put, List.setIfInBounds_toArray, List.set_cons_zero, List.set_cons_succ])
            clear cl
            refine wpAnyH_ready (rs := [5]) (by kernel_rfl) (by simp) ?_
            refine AllReadyH.cons rfl (fun K hK => ?_) AllReadyH.nil
            refine wp_run 38 (.tmp 35) (.tmp 37) rfl rfl rfl rfl rfl HRUN.out ?_
            refine hK.out _ _ SX.out.2.2.1 (fun hS => ?_)
            clear hK K
            (try simp only [Act.put, List.setIfInBounds_toArray, List.set_cons_zero, List.set_cons_succ])
            refine take_at 13 (some 46) (v := ?_) rfl rfl (by kernel_rfl) (by kernel_rfl) (by kernel_rfl) (fun _ _ _ h => h) ⟨by rfl, ?_⟩ hS ?_
            rotate_left
            · intro wq hSw; go_simp; try rfl
            simp only [Act.put, List.setIfInBounds_toArray, List.set_cons_zero, List.set_cons_succ]
            refine take_at 14 (some 47) (v := ?_) rfl rfl (by kernel_rfl) (by kernel_rfl) (by kernel_rfl) (fun _ _ _ h => h) ⟨by rfl, ?_⟩ hS ?_
            rotate_left
            · intro wq hSw; go_simp; try rfl
            simp only [Act.put, List.setIfInBounds_toArray, List.set_cons_zero, List.set_cons_succ]
            refine take_at 15 (some 48) (v := ?_) rfl rfl (by kernel_rfl) (by kernel_rfl) (by kernel_rfl) (fun _ _ _ h => h) ⟨by rfl, ?_⟩ hS ?_
            rotate_left
            · intro wq hSw; go_simp; try rfl
            simp only [Act.put, List.setIfInBounds_toArray, List.set_cons_zero, List.set_cons_succ]
            refine wpAnyH_ready (rs := [16]) (by kernel_rfl) (by simp) ?_
            refine AllReadyH.cons rfl (fun K hK => ?_) AllReadyH.nil
            go_simp
            go_wp2_with fail
            refine hK.out _ _ SX.out.2.2.2 (fun hS => ?_)
            clear hK K
            (try simp only [Act.put, List.setIfInBounds_toArray, List.set_cons_zero, List.set_cons_succ])
            refine wpAnyH_done (by kernel_rfl) ?_ _
            go_wp2_with fail
            go_meet
            first | rfl | exact rfl
        case rest =>
          obtain ⟨wn, hwn⟩ : ∃ z, z = (w6.setCell ⟨bx, 15, none⟩ (.slice (some ⟨g6, 0, none⟩) nd c6)) := ⟨_, rfl⟩
          rw [← hwn] at hcut LD2 BW2
          clear hwn xz xf HRUN CX SX s1
          obtain rfl : wn = wc := hcut.symm
          clear hcut
          have LN := hide (show LentX wn wr.heap.size ⟨x.r, some ⟨g5, 0, none⟩, c5, some ⟨g6, 0, none⟩, c6⟩ from LD2.out.lent HTX.out)
          have X4 := hide LD2.out.box
          clear LD2
          obtain ⟨z, hz⟩ : ∃ z : RX, z = ⟨x.r, some ⟨g5, 0, none⟩, c5, some ⟨g6, 0, none⟩, c6⟩ := ⟨_, rfl⟩
          rw [← hz] at LN X4
          have ZR := hide (show z.r = x.r by rw [hz])
          clear hz
          have G4 := hide (GRow.below (GRow.below G0.out BW2.out) (alloc_below wn (.cells (rxA z) 55)))
          have SZ := hide (show w.heap.size ≤ wn.heap.size from Nat.le_trans B0.out.size BW2.out.size)
          go_wp2_with (first | refine wpList_load36 X4.out rfl rfl ?_ | refine wpList_b22 (x := z) rfl ?_ | (at_builtin; refine wpList_app22 rfl (.tmp 49) (.tmp 51) rfl w.heap.size (.slice oa k oc) k (rowsC rxC zs) rfl G4.out ⟨wn.heap.size, 0, none⟩ z rfl (lies_rx wn z) (by omega) (by have := SZ.out; simp; omega) ?_; intro v5 w5 q1 q2 q3))
          have b4 := B0.out.trans (BW2.out.mono B0.out.size)
          have b5 := b4.trans ((alloc_below wn (.cells (rxA z) 55)).mono SZ.out)
          have B5 := hide (show Below w.heap.size w w5 from b5.trans ((grown_keep q2).below b5.size (fun g hg q => by have := (World.ownsRow.lt G4.out g q).1; omega)))
          have LL := hide (show ∀ y ∈ zs ++ [z], LentX w5 w.heap.size y from fun y hy => by
            rcases List.mem_append.1 hy with hy | hy
            · exact (((L0.out y hy).below BW2.out).below (alloc_below wn (.cells (rxA z) 55))).rowKeep G4.out (grown_keep q2)
            · rw [List.mem_singleton.1 hy]
              exact ((LN.out.below (alloc_below wn (.cells (rxA z) 55))).rowKeep G4.out (grown_keep q2)).mono B0.out.size)
          have RR := hide (show rsOf (zs ++ [z]) = (rsOf xs).take (k + 1) by rw [YK.out, ← R0.out, ← ZR.out]; simp)
          have Q1 := hide (show GRow w5 w.heap.size 55 17 v5 (k + 1) (rowsC rxC (zs ++ [z])) by rw [rowsC_app]; exact q1)
          have ZZ := hide (show (zs ++ [z]).length = k + 1 by rw [List.length_append, Z0.out]; rfl)
          clear q1 q2 q3 b4 b5
          go_roundw
          case rel => exact ⟨k + 1, zs ++ [z], by go_num, by omega, ZZ.out, Q1.out, LL.out, RR.out, B5.out⟩
          case measure => simp [intOf]; omega
    · obtain rfl : k = N := by omega
      have e1 : decide ((k : Int) < (k : Int)) = false := decide_eq_false (by omega)
      have RE := hide (show rsOf zs = rsOf xs by rw [R0.out]; exact List.take_of_length_le (by have := HN.out; simp; omega))
      clear R0
      have GM := hide (GRow.below G0.out (alloc_below wr (.cells (rxA mkRx) 55)))
      have SZ := hide B0.out.size
      go_wp2_with (first | refine wpList_b22 (x := mkRx) rfl ?_ | (at_builtin; refine wpList_app22 rfl (.tmp 53) (.tmp 55) rfl w.heap.size (.slice oa k oc) k (rowsC rxC zs) rfl GM.out ⟨wr.heap.size, 0, none⟩ mkRx rfl (lies_rx wr mkRx) (by omega) (by have := SZ.out; simp; omega) ?_; intro v5 w5 q1 q2 q3; obtain ⟨g5, c5, rfl, hc5⟩ := grow_open q1 (Nat.succ_pos _); have s1 := fun wq => slice22 (a := some ⟨g5, 0, none⟩) (n := k + 1) (cap := c5) k wq (by omega) nofun))
      have b5 := B0.out.trans ((alloc_below wr (.cells (rxA mkRx) 55)).mono SZ.out)
      have B5 := hide (show Below w.heap.size w w5 from b5.trans ((grown_keep q2).below b5.size (fun g hg q => by have := (World.ownsRow.lt GM.out g q).1; omega)))
      have LL := hide (show ∀ y ∈ zs, LentX w5 w.heap.size y from fun y hy => ((L0.out y hy).below (alloc_below wr (.cells (rxA mkRx) 55))).rowKeep GM.out (grown_keep q2))
      have ROW := hide (show GRow w5 w.heap.size 55 17 (.slice (some ⟨g5, 0, none⟩) (zs.length + 1) c5) (zs.length + 1) (rowsC rxC (zs ++ [mkRx])) by rw [rowsC_app, Z0.out]; exact q1)
      clear q1 q2 q3 b5
      go_ret
      exact ⟨some ⟨g5, 0, none⟩, c5, zs, rfl, Z0.out, RE.out, ⟨ROW.out, LL.out⟩, B5.out⟩
end Go.Proofs.YtblngphjoafidaaGreat

set_option linter.all false
namespace Go.Proofs.YtblngphjoafidaaGreat
open Go.RowKit Go.QK Go.Maps Go.QM Go.QT
set_option maxRecDepth 100000
theorem rs_at {zs xs : List RX} (h : rsOf zs = rsOf xs) {k : Nat} (hz : k < zs.length) (hx : k < xs.length) : zs[k].r = xs[k].r := by
  have e : (rsOf zs)[k]? = (rsOf xs)[k]? := by rw [h]
  simpa [hz, hx] using e
set_option maxHeartbeats 8000000 in
theorem kept_any (xs zs : List RX) (a' a : Option Addr) (N c' c B : Nat) (w : World) (h : Lnt w B a' c' zs) (hx : RecsAt w a xs) (hN : N = xs.length) (hN2 : N ≤ 1000) (hz : zs.length = N) (hr : rsOf zs = rsOf xs) (hs : ∀ x ∈ xs, x.r.live.length ≤ 60 ∧ x.r.dirty.length ≤ 60) :
    Calls Tryz.prog 11 #[.slice a' N c', .slice a N c] w fun e w' => e = .returned (.bool true) ∧ Below w.heap.size w w' := by
  obtain ⟨g, rfl, hc, hB, hg, mk⟩ := h.mark
  rw [hz] at mk hc
  have HL := hide h
  have HX := hide hx
  have HN := hide hN
  have HZ := hide hz
  have HR := hide hr
  have HS := hide hs
  have s0 := fun wq => slice22 (a := some ⟨g, 0, none⟩) (n := N) (cap := c') (N + 1) wq hc nofun
  have i0 : (N : Int) < (N : Int) + 1 := by omega
  clear h hx hN hz hr hs hB hg
  go_enter Tryz.func11, Tryz.ntmps11
  go_wp2_with fail
  go_loopw [5] (fun v wz => ∃ k : Nat, v = .int .i64 (k : Int) ∧ k ≤ N ∧ Below w.heap.size w wz) (fun v _ => N + 1 - (intOf v).toNat)
  case atStart => exact ⟨0, rfl, Nat.zero_le _, Below.refl _ _⟩
  case round =>
    obtain ⟨k, rfl, hk, hb⟩ := hrel
    have B0 := hide hb
    clear hb s0 i0 mk
    by_cases hkm : k < N
    · have hkx : k < xs.length := by have := HN.out; omega
      have hkz : k < zs.length := by have := HZ.out; omega
      have LX := (HL.out.below B0.out).each zs[k] (List.getElem_mem hkz)
      obtain ⟨gl, gd, ea, ed, q1, q2, glt, gdt, ml, md⟩ := LX.marks
      have RI := LX.in_
      have XI := (HX.out.below B0.out).each xs[k] (List.getElem_mem hkx)
      obtain ⟨zb, zo, ez, zlt, zsel⟩ := Lies.rowAt rxC 17 (fun _ => rfl) (HL.out.below B0.out).recs.row k hkz (by decide)
      cases ez
      obtain ⟨sb, so, rfl, slt, sel⟩ := Lies.rowAt rxC 17 (fun _ => rfl) (HX.out.below B0.out).row k hkx (by decide)
      have ER := rs_at HR.out hkz hkx
      have LS := HS.out xs[k] (List.getElem_mem hkx)
      generalize zs[k] = z at *
      generalize xs[k] = x at *
      obtain ⟨zr, zla, zlc, zda, zdc⟩ := z
      obtain ⟨r, la, lc, da, dc⟩ := x
      simp only at ER
      subst ER
      simp only at LS ml md q1 q2 ea ed
      subst ea ed
      obtain ⟨nl, hnl⟩ : ∃ n, n = zr.live.length := ⟨_, rfl⟩
      obtain ⟨nd, hnd⟩ : ∃ n, n = zr.dirty.length := ⟨_, rfl⟩
      rw [← hnl] at ml q1 LS
      rw [← hnd] at md q2 LS
      have f1 := zsel 14 (.slice (some ⟨gl, 0, none⟩) nl zlc) (by rw [hnl]; rfl)
      have f2 := zsel 15 (.slice (some ⟨gd, 0, none⟩) nd zdc) (by rw [hnd]; rfl)
      have f3 := sel 14 (.slice la nl lc) (by rw [hnl]; rfl)
      have f4 := sel 15 (.slice da nd dc) (by rw [hnd]; rfl)
      rw [Nat.zero_add] at f1 f2
      have s1 := fun wq => slice31 (a := some ⟨gl, 0, none⟩) (n := nl) (cap := zlc) (nl + 1) wq q1 nofun
      have s2 := fun wq => slice32 (a := some ⟨gd, 0, none⟩) (n := nd) (cap := zdc) (nd + 1) wq q2 nofun
      obtain ⟨RA, hRA⟩ : ∃ A, A = recC zr (some ⟨gl, 0, none⟩) zlc (some ⟨gd, 0, none⟩) zdc := ⟨_, rfl⟩
      obtain ⟨RB, hRB⟩ : ∃ A, A = recC zr la lc da dc := ⟨_, rfl⟩
      have SA := hide (show RA.size = 17 by rw [hRA]; rfl)
      have SB := hide (show RB.size = 17 by rw [hRB]; rfl)
      have CA := hide (show ∀ wq, Below wr.heap.size wr wq → ∀ j v, RA.toList[j]? = some v → wq.cell? ⟨g, k * 17 + j, none⟩ = some v from fun wq hb j v hv => by
        rw [hRA] at hv
        have q := zsel j v hv
        rw [Nat.zero_add] at q
        exact (hb.cell (p := ⟨g, k * 17 + j, none⟩) zlt).trans q)
      have CB := hide (show ∀ wq, Below wr.heap.size wr wq → ∀ j v, RB.toList[j]? = some v → wq.cell? ⟨sb, so + k * 17 + j, none⟩ = some v from fun wq hb j v hv => by
        rw [hRB] at hv
        exact (hb.cell (p := ⟨sb, so + k * 17 + j, none⟩) slt).trans (sel j v hv))
      have F3 := hide (show ∀ wq, Below wr.heap.size wr wq → wq.cell? ⟨sb, so + k * 17 + 14, none⟩ = some (.slice la nl lc) from fun wq hb => (hb.cell (p := ⟨sb, so + k * 17 + 14, none⟩) slt).trans f3)
      have F4 := hide (show ∀ wq, Below wr.heap.size wr wq → wq.cell? ⟨sb, so + k * 17 + 15, none⟩ = some (.slice da nd dc) from fun wq hb => (hb.cell (p := ⟨sb, so + k * 17 + 15, none⟩) slt).trans f4)
      have M3 := hide (show ∀ wq, Below wr.heap.size wr wq → wq.cell? ⟨gl, nl * 4, none⟩ = some (.int .i64 23130) from fun wq hb => (hb.cell (p := ⟨gl, nl * 4, none⟩) glt).trans ml)
      have M4 := hide (show ∀ wq, Below wr.heap.size wr wq → wq.cell? ⟨gd, nd * 2, none⟩ = some (.int .i64 23130) from fun wq hb => (hb.cell (p := ⟨gd, nd * 2, none⟩) gdt).trans md)
      have KS := hide (show ∀ wq, Below wr.heap.size wr wq → Calls Tryz.prog 26 #[.agg RA, .agg RB] wq fun e w' => e = .returned (.bool true) ∧ Below wq.heap.size wq w' from fun wq hb => by
        rw [hRA, hRB]
        exact Same_true zr _ _ _ _ _ _ _ _ wq (RI.below hb).li (RI.below hb).di (XI.below hb).li (XI.below hb).di (by omega) (by omega))
      obtain ⟨nl60, nd60⟩ := LS
      clear hRA hRB zsel sel hnl hnd ml md RI XI LX slt zlt glt gdt
      have e1 : decide ((k : Int) < (N : Int)) = true := decide_eq_true (by omega)
      have b3 : (k : Int) < (N : Int) := by omega
      go_upto_region 6 with fail
      go_quiet (fail)
      go_upto_region 7 with fail
      go_quiet (fail)
      go_upto_region 8 with fail
      clear f1 f2 f3 f4 s1 s2
      refine named (P := Code.wp _ _ _ _) ?_
      intro w2 hw2
      have B2 := hide (show Below wr.heap.size wr w2 by rw [hw2]; first | exact below_drewN (below_drewN (Below.refl _ _) _) _ | exact below_drewN (Below.refl _ _) _)
      clear hw2
      refine wp_region_held_drew (S := fun wq => Below w2.heap.size w2 wq) (by kernel_rfl) (Below.refl _ _).drew (fun hS => ?_)
      refine take_at 0 (some 55) (v := ?_) rfl rfl (by kernel_rfl) (by kernel_rfl) (by kernel_rfl) (fun _ _ _ h => h) ⟨by rfl, ?_⟩ hS ?_
      rotate_left
      · intro wq hSw; go_simp; try rfl
      simp only [Act.put, List.setIfInBounds_toArray, List.set_cons_zero, List.set_cons_succ]
      refine take_at 1 (some 56) (v := ?_) rfl rfl (by kernel_rfl) (by kernel_rfl) (by kernel_rfl) (fun _ _ _ h => h) ⟨by rfl, ?_⟩ hS ?_
      rotate_left
      · intro wq hSw; go_simp; try rfl
      simp only [Act.put, List.setIfInBounds_toArray, List.set_cons_zero, List.set_cons_succ]
      refine take_at 2 (some 57) (v := ?_) rfl rfl (by kernel_rfl) (by kernel_rfl) (by kernel_rfl) (fun _ _ _ h => h) ⟨by rfl, ?_⟩ hS ?_
      rotate_left
      · intro wq hSw; go_simp; try rfl
      simp only [Act.put, List.setIfInBounds_toArray, List.set_cons_zero, List.set_cons_succ]
      refine take_at 3 (some 58) (v := .agg RA) rfl rfl (by kernel_rfl) (by kernel_rfl) (by kernel_rfl) (fun _ _ _ h => h) ⟨by rfl, fun wq hSw => exec_load46 rfl rfl (CA.out wq (B2.out.trans (hSw.mono B2.out.size))) SA.out⟩ hS ?_
      simp only [Act.put, List.setIfInBounds_toArray, List.set_cons_zero, List.set_cons_succ]
      refine take_at 4 (some 59) (v := ?_) rfl rfl (by kernel_rfl) (by kernel_rfl) (by kernel_rfl) (fun _ _ _ h => h) ⟨by rfl, ?_⟩ hS ?_
      rotate_left
      · intro wq hSw; go_simp; try rfl
      simp only [Act.put, List.setIfInBounds_toArray, List.set_cons_zero, List.set_cons_succ]
      refine take_at 5 (some 60) (v := ?_) rfl rfl (by kernel_rfl) (by kernel_rfl) (by kernel_rfl) (fun _ _ _ h => h) ⟨by rfl, ?_⟩ hS ?_
      rotate_left
      · intro wq hSw; go_simp; try rfl
      simp only [Act.put, List.setIfInBounds_toArray, List.set_cons_zero, List.set_cons_succ]
      refine take_at 6 (some 61) (v := ?_) rfl rfl (by kernel_rfl) (by kernel_rfl) (by kernel_rfl) (fun _ _ _ h => h) ⟨by rfl, ?_⟩ hS ?_
      rotate_left
      · intro wq hSw; go_simp; try rfl
      simp only [Act.put, List.setIfInBounds_toArray, List.set_cons_zero, List.set_cons_succ]
      refine take_at 7 (some 62) (v := .agg RB) rfl rfl (by kernel_rfl) (by kernel_rfl) (by kernel_rfl) (fun _ _ _ h => h) ⟨by rfl, fun wq hSw => exec_load46 rfl rfl (CB.out wq (B2.out.trans (hSw.mono B2.out.size))) SB.out⟩ hS ?_
      simp only [Act.put, List.setIfInBounds_toArray, List.set_cons_zero, List.set_cons_succ]
      refine wpAnyH_ready (rs := [8]) (by kernel_rfl) (by simp) ?_
      refine AllReadyH.cons rfl (fun K hK => ?_) AllReadyH.nil
      go_simp
      go_wp2_with fail
      refine (KS.out _ (B2.out.trans (hS.mono B2.out.size))).mono ?_
      rintro e x1 ⟨rfl, hh⟩
      go_wp2_with fail
      refine hK.out _ _ (hS.trans (hh.mono hS.size)) (fun hS => ?_)
      clear hK K
      (try simp only [Act.put, List.setIfInBounds_toArray, List.set_cons_zero, List.set_cons_succ])
      refine take_at 9 (some 64) (v := ?_) rfl rfl (by kernel_rfl) (by kernel_rfl) (by kernel_rfl) (fun _ _ _ h => h) ⟨by rfl, ?_⟩ hS ?_
      rotate_left
      · intro wq hSw; go_simp; try rfl
      simp only [Act.put, List.setIfInBounds_toArray, List.set_cons_zero, List.set_cons_succ]
      refine take_at 10 (some 65) (v := ?_) rfl rfl (by kernel_rfl) (by kernel_rfl) (by kernel_rfl) (fun _ _ _ h => h) ⟨by rfl, ?_⟩ hS ?_
      rotate_left
      · intro wq hSw; go_simp; try rfl
      simp only [Act.put, List.setIfInBounds_toArray, List.set_cons_zero, List.set_cons_succ]
      refine take_at 11 (some 66) (v := ?_) rfl rfl (by kernel_rfl) (by kernel_rfl) (by kernel_rfl) (fun _ _ _ h => h) ⟨by rfl, ?_⟩ hS ?_
      rotate_left
      · intro wq hSw; go_simp; try rfl
      simp only [Act.put, List.setIfInBounds_toArray, List.set_cons_zero, List.set_cons_succ]
      refine take_at 12 (some 67) (v := ?_) rfl rfl (by kernel_rfl) (by kernel_rfl) (by kernel_rfl) (fun _ _ _ h => h) ⟨by rfl, ?_⟩ hS ?_
      rotate_left
      · intro wq hSw; go_simp; try rfl
      simp only [Act.put, List.setIfInBounds_toArray, List.set_cons_zero, List.set_cons_succ]
      refine take_at 13 (some 68) (v := ?_) rfl rfl (by kernel_rfl) (by kernel_rfl) (by kernel_rfl) (fun _ _ _ h => h) ⟨by rfl, ?_⟩ hS ?_
      rotate_left
      · intro wq hSw; go_simp; try rfl
      simp only [Act.put, List.setIfInBounds_toArray, List.set_cons_zero, List.set_cons_succ]
      refine take_at 14 (some 69) (v := ?_) rfl rfl (by kernel_rfl) (by kernel_rfl) (by kernel_rfl) (fun _ _ _ h => h) ⟨by rfl, ?_⟩ hS ?_
      rotate_left
      · intro wq hSw; go_simp; try rfl
      simp only [Act.put, List.setIfInBounds_toArray, List.set_cons_zero, List.set_cons_succ]
      refine take_at 15 (some 70) (v := ?_) rfl rfl (by kernel_rfl) (by kernel_rfl) (by kernel_rfl) (fun _ _ _ h => h) ⟨by rfl, ?_⟩ hS ?_
      rotate_left
      · intro wq hSw; go_simp; try rfl
      simp only [Act.put, List.setIfInBounds_toArray, List.set_cons_zero, List.set_cons_succ]
      refine take_at 16 (some 71) (v := ?_) rfl rfl (by kernel_rfl) (by kernel_rfl) (by kernel_rfl) (fun _ _ _ h => h) ⟨by rfl, ?_⟩ hS ?_
      rotate_left
      · intro wq hSw; go_simp; try rfl
      simp only [Act.put, List.setIfInBounds_toArray, List.set_cons_zero, List.set_cons_succ]
      refine take_at 17 (some 72) (v := ?_) rfl rfl (by kernel_rfl) (by kernel_rfl) (by kernel_rfl) (fun _ _ _ h => h) ⟨by rfl, ?_⟩ hS ?_
      rotate_left
      · intro wq hSw; have q := F3.out wq (B2.out.trans (hSw.mono B2.out.size)); go_simp; try rfl
      simp only [Act.put, List.setIfInBounds_toArray, List.set_cons_zero, List.set_cons_succ]
      refine take_at 18 (some 73) (v := ?_) rfl rfl (by kernel_rfl) (by kernel_rfl) (by kernel_rfl) (fun _ _ _ h => h) ⟨by rfl, ?_⟩ hS ?_
      rotate_left
      · intro wq hSw; go_simp; try rfl
      simp only [Act.put, List.setIfInBounds_toArray, List.set_cons_zero, List.set_cons_succ]
      refine take_at 19 (some 74) (v := ?_) rfl rfl (by kernel_rfl) (by kernel_rfl) (by kernel_rfl) (fun _ _ _ h => h) ⟨by rfl, ?_⟩ hS ?_
      rotate_left
      · intro wq hSw; have q : ((nl : Int) < (nl : Int) + 1) := (by omega); go_simp; try rfl
      simp only [Act.put, List.setIfInBounds_toArray, List.set_cons_zero, List.set_cons_succ]
      refine take_at 20 (some 75) (v := ?_) rfl rfl (by kernel_rfl) (by kernel_rfl) (by kernel_rfl) (fun _ _ _ h => h) ⟨by rfl, ?_⟩ hS ?_
      rotate_left
      · intro wq hSw; go_simp; try rfl
      simp only [Act.put, List.setIfInBounds_toArray, List.set_cons_zero, List.set_cons_succ]
      refine take_at 21 (some 76) (v := ?_) rfl rfl (by kernel_rfl) (by kernel_rfl) (by kernel_rfl) (fun _ _ _ h => h) ⟨by rfl, ?_⟩ hS ?_
      rotate_left
      · intro wq hSw; have q := M3.out wq (B2.out.trans (hSw.mono B2.out.size)); go_simp; try rfl
      simp only [Act.put, List.setIfInBounds_toArray, List.set_cons_zero, List.set_cons_succ]
      refine take_at 22 (some 77) (v := ?_) rfl rfl (by kernel_rfl) (by kernel_rfl) (by kernel_rfl) (fun _ _ _ h => h) ⟨by rfl, ?_⟩ hS ?_
      rotate_left
      · intro wq hSw; go_simp; try rfl
      simp only [Act.put, List.setIfInBounds_toArray, List.set_cons_zero, List.set_cons_succ]
      refine take_at 23 (some 78) (v := ?_) rfl rfl (by kernel_rfl) (by kernel_rfl) (by kernel_rfl) (fun _ _ _ h => h) ⟨by rfl, ?_⟩ hS ?_
      rotate_left
      · intro wq hSw; go_simp; try rfl
      simp only [Act.put, List.setIfInBounds_toArray, List.set_cons_zero, List.set_cons_succ]
      refine take_at 24 (some 79) (v := ?_) rfl rfl (by kernel_rfl) (by kernel_rfl) (by kernel_rfl) (fun _ _ _ h => h) ⟨by rfl, ?_⟩ hS ?_
      rotate_left
      · intro wq hSw; go_simp; try rfl
      simp only [Act.put, List.setIfInBounds_toArray, List.set_cons_zero, List.set_cons_succ]
      refine take_at 25 (some 80) (v := ?_) rfl rfl (by kernel_rfl) (by kernel_rfl) (by kernel_rfl) (fun _ _ _ h => h) ⟨by rfl, ?_⟩ hS ?_
      rotate_left
      · intro wq hSw; go_simp; try rfl
      simp only [Act.put, List.setIfInBounds_toArray, List.set_cons_zero, List.set_cons_succ]
      refine take_at 26 (some 81) (v := ?_) rfl rfl (by kernel_rfl) (by kernel_rfl) (by kernel_rfl) (fun _ _ _ h => h) ⟨by rfl, ?_⟩ hS ?_
      rotate_left
      · intro wq hSw; go_simp; try rfl
      simp only [Act.put, List.setIfInBounds_toArray, List.set_cons_zero, List.set_cons_succ]
      refine take_at 27 (some 82) (v := ?_) rfl rfl (by kernel_rfl) (by kernel_rfl) (by kernel_rfl) (fun _ _ _ h => h) ⟨by rfl, ?_⟩ hS ?_
      rotate_left
      · intro wq hSw; go_simp; try rfl
      simp only [Act.put, List.setIfInBounds_toArray, List.set_cons_zero, List.set_cons_succ]
      refine take_at 28 (some 83) (v := ?_) rfl rfl (by kernel_rfl) (by kernel_rfl) (by kernel_rfl) (fun _ _ _ h => h) ⟨by rfl, ?_⟩ hS ?_
      rotate_left
      · intro wq hSw; go_simp; try rfl
      simp only [Act.put, List.setIfInBounds_toArray, List.set_cons_zero, List.set_cons_succ]
      refine take_at 29 (some 84) (v := ?_) rfl rfl (by kernel_rfl) (by kernel_rfl) (by kernel_rfl) (fun _ _ _ h => h) ⟨by rfl, ?_⟩ hS ?_
      rotate_left
      · intro wq hSw; go_simp; try rfl
      simp only [Act.put, List.setIfInBounds_toArray, List.set_cons_zero, List.set_cons_succ]
      refine take_at 30 (some 85) (v := ?_) rfl rfl (by kernel_rfl) (by kernel_rfl) (by kernel_rfl) (fun _ _ _ h => h) ⟨by rfl, ?_⟩ hS ?_
      rotate_left
      · intro wq hSw; go_simp; try rfl
      simp only [Act.put, List.setIfInBounds_toArray, List.set_cons_zero, List.set_cons_succ]
      refine take_at 31 (some 86) (v := ?_) rfl rfl (by kernel_rfl) (by kernel_rfl) (by kernel_rfl) (fun _ _ _ h => h) ⟨by rfl, ?_⟩ hS ?_
      rotate_left
      · intro wq hSw; have q := F4.out wq (B2.out.trans (hSw.mono B2.out.size)); go_simp; try rfl
      simp only [Act.put, List.setIfInBounds_toArray, List.set_cons_zero, List.set_cons_succ]
      refine take_at 32 (some 87) (v := ?_) rfl rfl (by kernel_rfl) (by kernel_rfl) (by kernel_rfl) (fun _ _ _ h => h) ⟨by rfl, ?_⟩ hS ?_
      rotate_left
      · intro wq hSw; go_simp; try rfl
      simp only [Act.put, List.setIfInBounds_toArray, List.set_cons_zero, List.set_cons_succ]
      refine take_at 33 (some 88) (v := ?_) rfl rfl (by kernel_rfl) (by kernel_rfl) (by kernel_rfl) (fun _ _ _ h => h) ⟨by rfl, ?_⟩ hS ?_
      rotate_left
      · intro wq hSw; have q : ((nd : Int) < (nd : Int) + 1) := (by omega); go_simp; try rfl
      simp only [Act.put, List.setIfInBounds_toArray, List.set_cons_zero, List.set_cons_succ]
      refine take_at 34 (some 89) (v := ?_) rfl rfl (by kernel_rfl) (by kernel_rfl) (by kernel_rfl) (fun _ _ _ h => h) ⟨by rfl, ?_⟩ hS ?_
      rotate_left
      · intro wq hSw; go_simp; try rfl
      simp only [Act.put, List.setIfInBounds_toArray, List.set_cons_zero, List.set_cons_succ]
      refine take_at 35 (some 90) (v := ?_) rfl rfl (by kernel_rfl) (by kernel_rfl) (by kernel_rfl) (fun _ _ _ h => h) ⟨by rfl, ?_⟩ hS ?_
      rotate_left
      · intro wq hSw; have q := M4.out wq (B2.out.trans (hSw.mono B2.out.size)); go_simp; try rfl
      simp only [Act.put, List.setIfInBounds_toArray, List.set_cons_zero, List.set_cons_succ]
      refine take_at 36 (some 91) (v := ?_) rfl rfl (by kernel_rfl) (by kernel_rfl) (by kernel_rfl) (fun _ _ _ h => h) ⟨by rfl, ?_⟩ hS ?_
      rotate_left
      · intro wq hSw; go_simp; try rfl
      simp only [Act.put, List.setIfInBounds_toArray, List.set_cons_zero, List.set_cons_succ]
      refine take_at 37 (some 92) (v := ?_) rfl rfl (by kernel_rfl) (by kernel_rfl) (by kernel_rfl) (fun _ _ _ h => h) ⟨by rfl, ?_⟩ hS ?_
      rotate_left
      · intro wq hSw; go_simp; try rfl
      simp only [Act.put, List.setIfInBounds_toArray, List.set_cons_zero, List.set_cons_succ]
      have SS := hide (show Below w.heap.size w _ from B0.out.trans ((B2.out.trans (hS.mono B2.out.size)).mono B0.out.size))
      clear hS
      refine wpAnyH_done (by kernel_rfl) ?_ _
      go_wp2_with fail
      go_roundw
      case rel => exact ⟨k + 1, by go_num, by omega, SS.out⟩
      case measure => simp [intOf]; omega
    · obtain rfl : k = N := by omega
      have e1 : decide ((k : Int) < (k : Int)) = false := decide_eq_false (by omega)
      go_wp2_with fail
      go_ret
      exact ⟨rfl, B0.out⟩
end Go.Proofs.YtblngphjoafidaaGreat
