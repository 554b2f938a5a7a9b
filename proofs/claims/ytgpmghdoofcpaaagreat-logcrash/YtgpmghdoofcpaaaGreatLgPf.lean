import Derived.Test.YtgpmghdoofcpaaaGreatG46
namespace Go.Proofs.YtgpmghdoofcpaaaGreat.Lg
open Go.RowKit Go.QK
open Dv (hide bnext alloc_below LossAt)
set_option maxRecDepth 100000

/-- A whole load of a record, in a region that draws. -/
theorem take_load44 (w : World) (b off : Nat) (cs : Array Value) (hc : ∀ j v, cs.toList[j]? = some v → w.cell? ⟨b, off + j, none⟩ = some v) (hs : cs.size = 17) :
    (loadVar 44 ⟨b, off, none⟩).run Tryz.prog w = .ok (.agg cs) w := by
  have hl : (loadCells ⟨b, off, none⟩ cs.toList.length).run Tryz.prog w = .ok cs.toList.toArray w :=
    run_loadCells_list (P := Tryz.prog) w ⟨b, off, none⟩ cs.toList (fun j v hv => by
      rw [addr_add]
      exact hc j v hv)
  have hi := size36' hs
  cases hq : Tryz.prog.info? 44 with
  | none => simp [hq] at hi
  | some i =>
    have hs : i.size = cs.size := by simpa [hq] using hi
    have hagg : (isAgg 44).run Tryz.prog w = .ok true w := by
      unfold isAgg
      rw [Sem.run_bind, run_underlying Tryz.underlying44 w]
      rfl
    simp only [Array.length_toList, Array.toArray_toList] at hl
    simp [loadVar, Sem.run_bind, hagg, sizeOf, typeInfo, hq, hs, hl]
theorem exec_load44 {o : Oper} {ev : Operand → Value} {x : Operand} {ad : Addr} {cs : Array Value} {w : World} (ho : o.op = .load 44 x) (hx : ev x = .pointer (some ad)) (h : (loadVar 44 ad).run Tryz.prog w = .ok (.agg cs) w) : (execOp ev o).run Tryz.prog w = .ok (.value (.agg cs)) w := by
  unfold execOp
  simp only [ho, hx, Instr.loadAt, Instr.sureAddr, Sem.run_bind, Sem.run_pure, Result.andThen_ok, h]
set_option maxHeartbeats 8000000 in
/-- Function 19: the log has the first so many of the records. -/
theorem prefix_any {w : World} {S T : Nat → Prop} {l d : Nat} {g : Dev} {m : LogM} (h : LD w S T l d g m) (hm : m.Ok) (he : m.ended = false) (aa : Option Addr) (ac : Nat) (xs : List RecL) (hx : RecsAt w aa xs) (k : Nat) (hk : k ≤ xs.length) (hh : Holds ((xs.map RecL.r).take k) m.recs) (hxl : xs.length ≤ 1000) (most : Nat) (hmost : k ≤ most) :
    Calls Tryz.prog 19 #[.pointer (some ⟨l, 0, none⟩), .slice aa xs.length ac, .int .i64 (most : Int)] w fun e w' => e = .returned (.bool true) ∧ Below w.heap.size w w' := by
  have hlen : m.recs.length = k := by rw [hh.len, List.length_take, List.length_map]; omega
  have KL := hide (lastL_any h)
  rw [hlen] at KL
  have HLD := hide h
  have HM := hide hm
  have HE := hide he
  have HX := hide hx
  have HH := hide hh
  have hd1 : decide (most < k) = false := by simp; omega
  have hd2 : decide (xs.length < k) = false := by simp; omega
  clear h hm he hx hh hlen
  go_enter Tryz.func19, Tryz.ntmps19
  go_wp2_with fail
  refine KL.out.mono ?_
  rintro e w1 ⟨rfl, hww⟩
  obtain rfl : w = w1 := hww.symm
  clear KL
  go_wp2_with fail
  go_loopw [8] (fun iv wr => ∃ i : Nat, iv = .int .i64 (i : Int) ∧ 1 ≤ i ∧ i ≤ k + 1 ∧ Below w.heap.size w wr) (fun iv _ => (2000 - (intOf iv).toNat))
  case atStart => exact ⟨1, rfl, Nat.le_refl _, by omega, Below.refl _ _⟩
  case round =>
    obtain ⟨i, rfl, hi1, hik, hB⟩ := hrel
    have HB := hide hB
    clear hB
    by_cases hlt : i ≤ k
    · have hd3 : decide ((i : Int) ≤ (k : Int)) = true := by simp; omega
      have L1 := hide (HLD.out.below HB.out)
      obtain ⟨i0, hi0⟩ : ∃ q, i = q + 1 := ⟨i - 1, by omega⟩
      have hg0 := HH.out.get HE.out i0 (by rw [List.length_take, List.length_map]; omega)
      rw [← hi0] at hg0
      have hi0x : i0 < xs.length := by omega
      have hgr : (xs[i0]'hi0x).r = m.getR (i : Int) := by
        have q := hg0.2
        rw [List.getElem?_take, if_pos (by omega), List.getElem?_map, List.getElem?_eq_getElem hi0x] at q
        exact Option.some.inj q
      have hsh := HH.out.at_ i0 (by rw [List.length_take, List.length_map]; omega)
      rw [List.getElem?_take, if_pos (by omega), List.getElem?_map, List.getElem?_eq_getElem hi0x] at hsh
      have HSH := hide (show (xs[i0]'hi0x).r.live.length ≤ 1000000 ∧ (xs[i0]'hi0x).r.dirty.length ≤ 1000000 by
        obtain ⟨r9, e9, c9, _⟩ := hsh
        have e9 : (xs[i0]'hi0x).r = r9 := Option.some.inj e9
        rw [e9]
        have hi9 := okB_in (chkE_ok c9).2
        have := hi9.ll
        have := hi9.dl
        exact ⟨by omega, by omega⟩)
      clear hsh
      have KG := get_any L1.out HM.out (i : Int) (by omega)
      rw [hg0.1, ← hgr] at KG
      have KG := hide KG
      have HI0 := hide hi0
      have hix : IntKind.i64.wrap ((i : Int) - 1) = (i0 : Int) := by rw [IntKind.wrap_i64]; omega
      clear hg0 hgr hi0
      go_wp2_with fail
      refine KG.out.mono ?_
      rintro e w2 ⟨v2, rfl, o2, b2⟩
      obtain ⟨la, da, lc, dc, rfl, hl1, hl2⟩ := RecOut.liesL o2 (fun _ => 2) 2 (fun _ _ => rfl)
      have BW2 := hide (bnext HB.out b2 (Nat.le_refl _))
      have HL2 := hide (And.intro hl1.lies hl2.lies)
      clear KG o2 b2 hl1 hl2 L1 HB
      have HLS := hide (HX.out.lists xs[i0] (List.getElem_mem hi0x))
      have hrow := (HX.out.below BW2.out)
      obtain ⟨bR, oR, eR, hbR, hcR⟩ := Lies.rowAt recLC 17 recLC_length hrow.row i0 hi0x (by decide)
      obtain ⟨rr, hrr⟩ : ∃ q, q = xs[i0]'hi0x := ⟨_, rfl⟩
      rw [← hrr] at HL2 HLS hcR HSH ⊢
      have hls2 := HLS.out
      obtain ⟨r, la0, lc0, da0, dc0⟩ := rr
      have HCR := hide (show ∀ j v, (recC r la0 lc0 da0 dc0).toList[j]? = some v → w2.cell? ⟨bR, oR + i0 * 17 + j, none⟩ = some v from fun j v hv => hcR j v hv)
      dsimp only at *
      have HLZ := hide (And.intro (hls2.1.below BW2.out) (hls2.2.below BW2.out))
      have hnl := HSH.out
      have HNL := hide hnl
      clear hnl HSH
      subst eR
      clear hcR hrow hls2 HLS hrr
      go_upto_region 8 with (refine wpList_store36 (cs' := recC r la lc da dc) (RBox.new _ _ _) rfl rfl rfl rfl rfl ?_; intro w3 R3 hk3)
      have b3 := newBox hk3
      have hz3 := b3.size
      have BW3 := hide (bnext BW2.out b3 (Nat.le_refl _))
      have HL3 := hide (And.intro (HL2.out.1.below b3) (HL2.out.2.below b3))
      have HLZ3 := hide (And.intro (HLZ.out.1.below b3) (HLZ.out.2.below b3))
      have HCR3 := hide (show ∀ j v, (recC r la0 lc0 da0 dc0).toList[j]? = some v → w3.cell? ⟨bR, oR + i0 * 17 + j, none⟩ = some v from fun j v hv => (b3.cell (p := ⟨bR, oR + i0 * 17 + j, none⟩) hbR).trans (HCR.out j v hv))
      have R3 := hide R3
      clear HL2 HLZ HCR b3 hk3 BW2
      generalize w2.heap.size = b9 at *
      have DR : Below w3.heap.size w3 w3.drew := (Below.refl _ _).drew
      have BW4 := hide (bnext BW3.out DR (Nat.le_refl _))
      have hA := take_load44 w3.drew b9 0 (recC r la lc da dc) (fun j v hv => by rw [Nat.zero_add]; exact (R3.out.cells.get j v hv).1) rfl
      have hB := take_load44 w3.drew bR (oR + i0 * 17) (recC r la0 lc0 da0 dc0) HCR3.out rfl
      have KSm := hide (Same_true r la da la0 da0 lc dc lc0 dc0 w3.drew (HL3.out.1.below DR) (HL3.out.2.below DR) (HLZ3.out.1.below DR) (HLZ3.out.2.below DR) HNL.out.1 HNL.out.2)
      have HLA := hide (fun (wz : World) (bz : Below w3.drew.heap.size w3.drew wz) => take_load44 wz b9 0 (recC r la lc da dc) (fun j v hv => by rw [Nat.zero_add]; exact (bz.cell (p := ⟨b9, j, none⟩) R3.out.lt).trans (R3.out.cells.get j v hv).1) rfl)
      have HLB := hide (fun (wz : World) (bz : Below w3.drew.heap.size w3.drew wz) => take_load44 wz bR (oR + i0 * 17) (recC r la0 lc0 da0 dc0) (fun j v hv => (bz.cell (p := ⟨bR, oR + i0 * 17 + j, none⟩) (Nat.lt_of_lt_of_le hbR hz3)).trans (HCR3.out j v hv)) rfl)
      generalize hrA : recC r la lc da dc = RA at *
      generalize hrB : recC r la0 lc0 da0 dc0 = RB at *
      clear hrA hrB HL3 HLZ3 HCR3 BW3 R3
      go_upto_region 8 with fail
      refine wp_region_held_drew (S := fun wq => (loadVar 44 ⟨b9, 0, none⟩).run Tryz.prog wq = .ok (.agg RA) wq ∧ (loadVar 44 ⟨bR, oR + i0 * 17, none⟩).run Tryz.prog wq = .ok (.agg RB) wq) (by kernel_rfl) ⟨hA, hB⟩ (fun hS => ?_)
      clear hA hB DR
      generalize w3.drew = w4 at *
      refine take_at 0 (some 33) (v := ?_) rfl rfl (by kernel_rfl) (by kernel_rfl) (by kernel_rfl) (fun _ _ _ h => h) ⟨by rfl, ?_⟩ hS ?_
      rotate_left
      · intro wq hSw; go_simp; try rfl
      simp only [Act.put, List.setIfInBounds_toArray, List.set_cons_zero, List.set_cons_succ]
      refine wpAnyH_ready (rs := [1]) (by kernel_rfl) (by simp) ?_
      refine AllReadyH.cons rfl (fun K hK => ?_) AllReadyH.nil
      go_simp
      go_wp2_with fail
      refine (num_any 0 w4).mono ?_
      rintro e w5 ⟨rfl, hww⟩
      obtain rfl : w4 = w5 := hww.symm
      go_wp2_with fail
      refine hK.out _ _ hS (fun hS => ?_)
      clear hK K
      (try simp only [Act.put, List.setIfInBounds_toArray, List.set_cons_zero, List.set_cons_succ])
      refine take_at 2 (some 35) (v := ?_) rfl rfl (by kernel_rfl) (by kernel_rfl) (by kernel_rfl) (fun _ _ _ h => h) ⟨by rfl, ?_⟩ hS ?_
      rotate_left
      · intro wq hSw; go_simp; try rfl
      simp only [Act.put, List.setIfInBounds_toArray, List.set_cons_zero, List.set_cons_succ]
      refine take_at 3 (some 36) (v := ?_) rfl rfl (by kernel_rfl) (by kernel_rfl) (by kernel_rfl) (fun _ _ _ h => h) ⟨by rfl, ?_⟩ hS ?_
      rotate_left
      · intro wq hSw; go_simp; try rfl
      simp only [Act.put, List.setIfInBounds_toArray, List.set_cons_zero, List.set_cons_succ]
      refine take_at 4 (some 37) (v := ?_) rfl rfl (by kernel_rfl) (by kernel_rfl) (by kernel_rfl) (fun _ _ _ h => h) ⟨by rfl, ?_⟩ hS ?_
      rotate_left
      · intro wq hSw; obtain ⟨y0, y1⟩ := hSw; (refine exec_load44 (x := .tmp 9) (cs := RA) ?_ ?_ y0 <;> rfl)
      simp only [Act.put, List.setIfInBounds_toArray, List.set_cons_zero, List.set_cons_succ]
      refine take_at 5 (some 38) (v := ?_) rfl rfl (by kernel_rfl) (by kernel_rfl) (by kernel_rfl) (fun _ _ _ h => h) ⟨by rfl, ?_⟩ hS ?_
      rotate_left
      · intro wq hSw; go_simp; try rfl
      simp only [Act.put, List.setIfInBounds_toArray, List.set_cons_zero, List.set_cons_succ]
      refine take_at 6 (some 39) (v := ?_) rfl rfl (by kernel_rfl) (by kernel_rfl) (by kernel_rfl) (fun _ _ _ h => h) ⟨by rfl, ?_⟩ hS ?_
      rotate_left
      · intro wq hSw; go_simp; try rfl
      simp only [Act.put, List.setIfInBounds_toArray, List.set_cons_zero, List.set_cons_succ]
      refine take_at 7 (some 40) (v := ?_) rfl rfl (by kernel_rfl) (by kernel_rfl) (by kernel_rfl) (fun _ _ _ h => h) ⟨by rfl, ?_⟩ hS ?_
      rotate_left
      · intro wq hSw; go_simp; try rfl
      simp only [Act.put, List.setIfInBounds_toArray, List.set_cons_zero, List.set_cons_succ]
      refine take_at 8 (some 41) (v := ?_) rfl rfl (by kernel_rfl) (by kernel_rfl) (by kernel_rfl) (fun _ _ _ h => h) ⟨by rfl, ?_⟩ hS ?_
      rotate_left
      · intro wq hSw; go_simp; try rfl
      simp only [Act.put, List.setIfInBounds_toArray, List.set_cons_zero, List.set_cons_succ]
      refine take_at 9 (some 42) (v := ?_) rfl rfl (by kernel_rfl) (by kernel_rfl) (by kernel_rfl) (fun _ _ _ h => h) ⟨by rfl, ?_⟩ hS ?_
      rotate_left
      · intro wq hSw; obtain ⟨y0, y1⟩ := hSw; (refine exec_load44 (x := .tmp 41) (cs := RB) ?_ ?_ y1 <;> rfl)
      simp only [Act.put, List.setIfInBounds_toArray, List.set_cons_zero, List.set_cons_succ]
      refine wpAnyH_ready (rs := [10]) (by kernel_rfl) (by simp) ?_
      refine AllReadyH.cons rfl (fun K hK => ?_) AllReadyH.nil
      go_simp
      go_wp2_with fail
      refine KSm.out.mono ?_
      rintro e w5 ⟨rfl, b5⟩
      have BW5 := hide (bnext BW4.out b5 (Nat.le_refl _))
      have HA5 := hide (HLA.out w5 b5)
      have HB5 := hide (HLB.out w5 b5)
      clear KSm b5 BW4
      go_wp2_with fail
      refine hK.out _ _ ⟨HA5.out, HB5.out⟩ (fun hS => ?_)
      clear hK K
      (try simp only [Act.put, List.setIfInBounds_toArray, List.set_cons_zero, List.set_cons_succ])
      refine take_at 11 (some 44) (v := ?_) rfl rfl (by kernel_rfl) (by kernel_rfl) (by kernel_rfl) (fun _ _ _ h => h) ⟨by rfl, ?_⟩ hS ?_
      rotate_left
      · intro wq hSw; go_simp; try rfl
      simp only [Act.put, List.setIfInBounds_toArray, List.set_cons_zero, List.set_cons_succ]
      refine take_at 12 (some 45) (v := ?_) rfl rfl (by kernel_rfl) (by kernel_rfl) (by kernel_rfl) (fun _ _ _ h => h) ⟨by rfl, ?_⟩ hS ?_
      rotate_left
      · intro wq hSw; go_simp; try rfl
      simp only [Act.put, List.setIfInBounds_toArray, List.set_cons_zero, List.set_cons_succ]
      refine wpAnyH_done (by kernel_rfl) ?_ _
      go_wp2_with fail
      go_roundw
      case rel => exact ⟨i + 1, by go_num, by omega, by omega, BW5.out⟩
      case measure => simp [intOf]; omega
    · obtain rfl : i = k + 1 := by omega
      have hd3 : decide (((k + 1 : Nat) : Int) ≤ (k : Int)) = false := by simp; omega
      go_wp2_with fail
      go_ret
      exact ⟨rfl, HB.out⟩
end Go.Proofs.YtgpmghdoofcpaaaGreat.Lg
