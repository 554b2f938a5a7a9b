import Derived.Test.YtakjpljpdlhicaaDoorPg26
namespace Go.Proofs.YtakjpljpdlhicaaDoor
open Go.RowKit Go.QK Go.Pg
set_option maxRecDepth 100000
set_option maxHeartbeats 4000000 in
theorem content_any (p : PageM) (t : At) (w : World) (hc : Lies w t.a (ctrsC p.cs)) (hg : Lies w t.b (grpsC p.gs)) (h1 : p.cs.length ≤ 1000) (h2 : p.gs.length ≤ 1000) :
    Calls Tryd.prog 57 #[pageV p t] w fun e w' => e = .returned (.int .i64 (slotsE p.cs p.gs)) ∧ Below w.heap.size w w' := by
  obtain ⟨num, lsn, cs, gs⟩ := p
  obtain ⟨ta, tc, tb, td⟩ := t
  simp only [pageV] at *
  obtain ⟨B, hB⟩ : ∃ B, B = w.heap.size := ⟨_, rfl⟩
  obtain ⟨w0, hw0⟩ : ∃ w0, w0 = w.alloc (.cells #[.int .i64 num, .int .i64 lsn, .slice ta cs.length tc, .slice tb gs.length td] 38) := ⟨_, rfl⟩
  have b0 : Below B w w0 := by rw [hw0, hB]; exact alloc_below _ _
  have z0 : w0.heap.size = B + 1 := by rw [hw0, hB]; simp
  have c0 : Cells w0 B [.int .i64 num, .int .i64 lsn, .slice ta cs.length tc, .slice tb gs.length td] := by rw [hw0, hB]; exact Cells.new w _ _
  rw [← hB]
  have HC := hide hc
  have HG := hide hg
  have HW := hide hw0
  have HB := hide hB
  have HZ0 := hide z0
  clear hc hg hw0 hB z0
  obtain ⟨RES, hres⟩ : ∃ r, r = slotsE cs gs := ⟨_, rfl⟩
  rw [← hres]
  have HR := hide hres
  clear hres
  go_enter Tryd.func57, Tryd.ntmps57
  go_upto_region 1 with fail
  rw [← HB.out, ← HW.out]
  go_wp2_with fail
  go_loopw [3] (fun i ws => ∃ k : Nat, i = .int .i64 (k : Int) ∧ k ≤ cs.length ∧ (∀ c ∈ cs.take k, ctrE c = 0) ∧ Below (B + 1) w0 ws) (fun i _ => cs.length - (intOf i).toNat)
  case atStart => exact ⟨0, rfl, Nat.zero_le _, by simp, Below.refl _ _⟩
  case round =>
    obtain ⟨k, rfl, hk, hz, hbel⟩ := hrel
    obtain ⟨g2, x2⟩ := (c0.under (by omega) hbel).get 2 _ rfl
    by_cases hlt : k < cs.length
    · obtain ⟨b, off, rfl, hbl, hcell⟩ := Lies.rowAt ctrC 5 ctrC_length HC.out k hlt (by decide)
      have hbB : b < B := by rw [HB.out]; exact hbl
      have hat := slots_at cs gs k hlt hz
      have hstep := all_take_succ (f := ctrE) hlt hz
      have cell' : ∀ j v, (ctrC cs[k])[j]? = some v → wr.cell? ⟨b, off + k * 5 + j, none⟩ = some v := fun j v hv => (hbel.cell (p := ⟨b, off + k * 5 + j, none⟩) (by simp; omega)).trans ((b0.cell (p := ⟨b, off + k * 5 + j, none⟩) (by simpa using hbB)).trans (hcell j v hv))
      have FO := fun w => faultOf_any cs[k] w
      generalize hck : cs[k] = ck at *
      obtain ⟨CE, hCE⟩ : ∃ e, e = ctrE ck := ⟨_, rfl⟩
      rw [← hCE] at hat hstep
      simp only [← hCE] at FO
      obtain ⟨id, grp, lo, hi, val⟩ := ck
      have y0 := cell' 0 _ rfl
      have y1 := cell' 1 _ rfl
      have y2 := cell' 2 _ rfl
      have y3 := cell' 3 _ rfl
      have y4 := cell' 4 _ rfl
      rw [Nat.add_zero] at y0
      simp only at FO
      have HAT := hide hat
      have HST := hide hstep
      have HBE := hide hbel
      have HSZ := hide hbel.size
      clear hat hstep hcell cell' hck hbel hz hCE
      go_wp2_with fail
      refine (FO _).mono ?_
      rintro e w1 ⟨rfl, b1⟩
      have B1 := hide (HBE.out.trans (b1.mono (by have := HSZ.out; rw [HZ0.out] at this; exact this)))
      clear b1
      by_cases he : CE = 0
      · subst he
        go_wp2_with fail
        go_roundw
        case rel => exact ⟨k + 1, by go_num, by omega, HST.out (by simp), B1.out⟩
        case measure => simp [intOf]; omega
      · have hd : (CE != 0) = true := by simp; exact he
        go_wp2_with fail
        go_ret
        exact ⟨by rw [HR.out, HAT.out he]; rfl, b0.trans (B1.out.mono (by omega))⟩
    · obtain rfl : k = cs.length := by omega
      rw [List.take_length] at hz
      have HZC := hide hz
      have HBE0 := hide hbel
      clear hz hbel
      go_wp2_with fail
      go_loopw [5] (fun i ws => ∃ k : Nat, i = .int .i64 (k : Int) ∧ k ≤ gs.length ∧ (∀ c ∈ gs.take k, grpE c = 0) ∧ wr = ws) (fun i _ => gs.length - (intOf i).toNat)
      case atStart => exact ⟨0, rfl, Nat.zero_le _, by simp, rfl⟩
      case round =>
        obtain ⟨k, rfl, hk, hz, rfl⟩ := hrel
        obtain ⟨g3, x3⟩ := (c0.under (by omega) HBE0.out).get 3 _ rfl
        by_cases hlt : k < gs.length
        · obtain ⟨b, off, rfl, hbl, hcell⟩ := Lies.rowAt grpC 2 grpC_length HG.out k hlt (by decide)
          have hbB : b < B := by rw [HB.out]; exact hbl
          have hat := slots_atG cs gs k hlt HZC.out hz
          have hstep := all_take_succ (f := grpE) hlt hz
          have y0 : wr.cell? ⟨b, off + k * 2, none⟩ = some (.int .i64 gs[k].id) := (HBE0.out.cell (p := ⟨b, off + k * 2, none⟩) (by simp; omega)).trans ((b0.cell (p := ⟨b, off + k * 2, none⟩) (by simpa using hbB)).trans (hcell 0 _ rfl))
          generalize hck : gs[k] = ck at *
          obtain ⟨id, sm⟩ := ck
          simp only at y0
          have hE : grpE ⟨id, sm⟩ = if okN id then 0 else 23 := rfl
          have HE := hide hE
          have HAT := hide hat
          have HST := hide hstep
          clear hE hat hstep hcell hck hz g2 x2
          by_cases e1 : id < 1
          · have d1 : decide (id < 1) = true := by simp [e1]
            have HV := hide (show grpE ⟨id, sm⟩ = 23 by rw [HE.out]; exact if_neg (by simp [okN]; omega))
            go_wp2_with fail
            go_ret
            exact ⟨by rw [HR.out, HAT.out (by rw [HV.out]; decide), HV.out]; rfl, b0.trans (HBE0.out.mono (by omega))⟩
          have d1 : decide (id < 1) = false := by simp [e1]
          by_cases e2 : 1048576 < id
          · have d2 : decide (1048576 < id) = true := by simp [e2]
            have HV := hide (show grpE ⟨id, sm⟩ = 23 by rw [HE.out]; exact if_neg (by simp [okN]; omega))
            go_wp2_with fail
            go_ret
            exact ⟨by rw [HR.out, HAT.out (by rw [HV.out]; decide), HV.out]; rfl, b0.trans (HBE0.out.mono (by omega))⟩
          · have d2 : decide (1048576 < id) = false := by simp [e2]
            have HV := hide (show grpE ⟨id, sm⟩ = 0 by rw [HE.out]; exact if_pos (by simp [okN]; omega))
            go_wp2_with fail
            go_roundw
            case rel => exact ⟨k + 1, by go_num, by omega, HST.out HV.out, trivial⟩
            case measure => simp [intOf]; omega
        · obtain rfl : k = gs.length := by omega
          rw [List.take_length] at hz
          have HE := hide (slots_none cs gs HZC.out hz)
          clear hz g2 x2
          go_wp2_with fail
          go_ret
          exact ⟨by rw [HR.out, HE.out]; rfl, b0.trans (HBE0.out.mono (by omega))⟩
end Go.Proofs.YtakjpljpdlhicaaDoor
