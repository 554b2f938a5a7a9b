import Derived.Test.YtakjpljpdlhicaaDoorPg3
import Derived.Deep.DeepCutAuto
namespace Go.Proofs.YtakjpljpdlhicaaDoor
open Go.RowKit Go.QK Go.Pg
set_option maxRecDepth 100000

theorem firstE_append {l m : List Int} (h : ∀ e ∈ l, e = 0) : firstE (l ++ m) = firstE m := by
  induction l with
  | nil => rfl
  | cons e l ih =>
    rw [List.cons_append, firstE, if_pos (h e (by simp)), ih (fun x hx => h x (by simp [hx]))]
theorem slots_at (cs : List CtrM) (gs : List GrpM) (k : Nat) (hk : k < cs.length) (hz : ∀ c ∈ cs.take k, ctrE c = 0) (he : ctrE cs[k] ≠ 0) : slotsE cs gs = ctrE cs[k] := by
  have e : cs.map ctrE ++ gs.map grpE = (cs.take k).map ctrE ++ (ctrE cs[k] :: ((cs.drop (k + 1)).map ctrE ++ gs.map grpE)) := by
    have q : cs = cs.take k ++ cs[k] :: cs.drop (k + 1) := by rw [← List.drop_eq_getElem_cons hk, List.take_append_drop]
    conv => lhs; rw [q]
    rw [List.map_append, List.map_cons, List.append_assoc, List.cons_append]
  unfold slotsE
  rw [e, firstE_append (by intro x hx; obtain ⟨c, hc, rfl⟩ := List.mem_map.1 hx; exact hz c hc), firstE, if_neg he]
theorem slots_atG (cs : List CtrM) (gs : List GrpM) (k : Nat) (hk : k < gs.length) (hc : ∀ c ∈ cs, ctrE c = 0) (hz : ∀ c ∈ gs.take k, grpE c = 0) (he : grpE gs[k] ≠ 0) : slotsE cs gs = grpE gs[k] := by
  have e : cs.map ctrE ++ gs.map grpE = (cs.map ctrE ++ (gs.take k).map grpE) ++ (grpE gs[k] :: (gs.drop (k + 1)).map grpE) := by
    have q : gs = gs.take k ++ gs[k] :: gs.drop (k + 1) := by rw [← List.drop_eq_getElem_cons hk, List.take_append_drop]
    conv => lhs; rw [q]
    rw [List.map_append, List.map_cons, List.append_assoc]
  unfold slotsE
  rw [e, firstE_append ?_, firstE, if_neg he]
  intro x hx
  rcases List.mem_append.1 hx with q | q
  · obtain ⟨c, hq, rfl⟩ := List.mem_map.1 q; exact hc c hq
  · obtain ⟨c, hq, rfl⟩ := List.mem_map.1 q; exact hz c hq
theorem slots_none (cs : List CtrM) (gs : List GrpM) (hc : ∀ c ∈ cs, ctrE c = 0) (hz : ∀ c ∈ gs, grpE c = 0) : slotsE cs gs = 0 := by
  unfold slotsE
  rw [firstE_zero]
  intro x hx
  rcases List.mem_append.1 hx with q | q
  · obtain ⟨c, hq, rfl⟩ := List.mem_map.1 q; exact hc c hq
  · obtain ⟨c, hq, rfl⟩ := List.mem_map.1 q; exact hz c hq
theorem all_take_succ {α : Type} {f : α → Int} {l : List α} {k : Nat} (hk : k < l.length) (h : ∀ c ∈ l.take k, f c = 0) (he : f l[k] = 0) : ∀ c ∈ l.take (k + 1), f c = 0 := by
  intro c hc
  rw [List.take_succ_eq_append_getElem hk] at hc
  rcases List.mem_append.1 hc with q | q
  · exact h c q
  · simp at q; subst q; exact he

set_option maxHeartbeats 4000000 in
theorem checkSlots_any (p : PageM) (t : At) (w : World) (h : PageIn w p t) (h1 : p.cs.length ≤ 1000) (h2 : p.gs.length ≤ 1000) :
    Calls Tryd.prog 30 #[pageV p t] w fun e w' => e = .returned (.int .i64 (slotsE p.cs p.gs)) ∧ Below w.heap.size w w' := by
  obtain ⟨num, lsn, cs, gs⟩ := p
  obtain ⟨ta, tc, tb, td⟩ := t
  obtain ⟨hc, hg, -⟩ := h
  simp only [pageV] at *
  obtain ⟨B, hB⟩ : ∃ B, B = w.heap.size := ⟨_, rfl⟩
  obtain ⟨w0, hw0⟩ : ∃ w0, w0 = w.alloc (.cells #[.int .i64 num, .int .i64 lsn, .slice ta cs.length tc, .slice tb gs.length td] 27) := ⟨_, rfl⟩
  have b0 : Below B w w0 := by rw [hw0, hB]; exact alloc_below _ _
  have z0 : w0.heap.size = B + 1 := by rw [hw0, hB]; simp
  have c0 : Cells w0 B [.int .i64 num, .int .i64 lsn, .slice ta cs.length tc, .slice tb gs.length td] := by rw [hw0, hB]; exact Cells.new w _ _
  rw [← hB]
  have HC := hide hc
  have HG := hide hg
  have HW := hide hw0
  have HB := hide hB
  have HZ0 := hide z0
  clear hc hg hw0 hB z0
  obtain ⟨RES, hres⟩ : ∃ r, r = slotsE cs gs := ⟨_, rfl⟩
  rw [← hres]
  have HR := hide hres
  clear hres
  go_enter Tryd.func30, Tryd.ntmps30
  go_upto_region 1 with fail
  rw [← HB.out, ← HW.out]
  obtain ⟨g2, f2⟩ := c0.get 2 _ rfl
  go_wp2_with fail
  go_loopw [10] (fun i ws => ∃ k : Nat, i = .int .i64 (k : Int) ∧ k ≤ cs.length ∧ (∀ c ∈ cs.take k, ctrE c = 0) ∧ Below (B + 1) w0 ws) (fun i _ => cs.length - (intOf i).toNat)
  case atStart => exact ⟨0, rfl, Nat.zero_le _, by simp, Below.refl _ _⟩
  case round =>
    obtain ⟨k, rfl, hk, hz, hbel⟩ := hrel
    have hsz := hbel.size
    by_cases hlt : k < cs.length
    · obtain ⟨b, off, rfl, hbl, hcell⟩ := Lies.rowAt ctrC 5 ctrC_length HC.out k hlt (by decide)
      have hbB : b < B := by rw [HB.out]; exact hbl
      have hat := slots_at cs gs k hlt hz
      have hstep := all_take_succ (f := ctrE) hlt hz
      have cell' : ∀ j v, (ctrC cs[k])[j]? = some v → wr.cell? ⟨b, off + k * 5 + j, none⟩ = some v := fun j v hv => (hbel.cell (p := ⟨b, off + k * 5 + j, none⟩) (by simp; omega)).trans ((b0.cell (p := ⟨b, off + k * 5 + j, none⟩) (by simpa using hbB)).trans (hcell j v hv))
      generalize hck : cs[k] = ck at *
      obtain ⟨id, grp, lo, hi, val⟩ := ck
      have x0 := cell' 0 _ rfl
      have x1 := cell' 1 _ rfl
      have x2 := cell' 2 _ rfl
      have x3 := cell' 3 _ rfl
      have x4 := cell' 4 _ rfl
      rw [Nat.add_zero] at x0
      obtain ⟨q1, hq1⟩ : ∃ q, q = okN id := ⟨_, rfl⟩
      obtain ⟨q2, hq2⟩ : ∃ q, q = okN grp := ⟨_, rfl⟩
      have F1 : ∀ w, Calls Tryd.prog 24 #[.int .i64 1, .int .i64 id, .int .i64 1048576] w fun e w' => e = .returned (.bool q1) ∧ w' = w := by rw [hq1]; exact fun w => from_any 1 id 1048576 w
      have F2 : ∀ w, Calls Tryd.prog 24 #[.int .i64 1, .int .i64 grp, .int .i64 1048576] w fun e w' => e = .returned (.bool q2) ∧ w' = w := by rw [hq2]; exact fun w => from_any 1 grp 1048576 w
      have hE : ctrE ⟨id, grp, lo, hi, val⟩ = if q1 && q2 then (if hi < lo then 11 else 0) else 23 := by rw [hq1, hq2]; rfl
      have HE := hide hE
      have HAT := hide hat
      have HST := hide hstep
      have HBE := hide hbel
      have HSZ := hide hsz
      clear hE hat hstep hcell cell' hq1 hq2 hck hbel hsz hz g2 f2
      cases q1 with
      | false =>
        go_wp2_with fail
        refine (F1 _).mono ?_
        rintro e w1 ⟨rfl, rfl⟩
        go_wp2_with fail
        go_ret
        refine ⟨?_, b0.trans (((HBE.out.alloc (by have := HSZ.out; rw [HZ0.out] at this; exact this) _)).mono (by omega))⟩
        rw [HR.out, HAT.out (by rw [HE.out]; simp), HE.out]
        rfl
      | true =>
        cases q2 with
        | false =>
          go_wp2_with fail
          refine (F1 _).mono ?_
          rintro e w1 ⟨rfl, rfl⟩
          go_wp2_with fail
          refine (F2 _).mono ?_
          rintro e w1 ⟨rfl, rfl⟩
          go_wp2_with fail
          go_ret
          refine ⟨?_, b0.trans (((HBE.out.alloc (by have := HSZ.out; rw [HZ0.out] at this; exact this) _)).mono (by omega))⟩
          rw [HR.out, HAT.out (by rw [HE.out]; simp), HE.out]
          rfl
        | true =>
          by_cases hr : hi < lo
          · have hd : decide (hi < lo) = true := by simp [hr]
            go_wp2_with fail
            refine (F1 _).mono ?_
            rintro e w1 ⟨rfl, rfl⟩
            go_wp2_with fail
            refine (F2 _).mono ?_
            rintro e w1 ⟨rfl, rfl⟩
            go_wp2_with fail
            go_ret
            refine ⟨?_, b0.trans (((HBE.out.alloc (by have := HSZ.out; rw [HZ0.out] at this; exact this) _)).mono (by omega))⟩
            rw [HR.out, HAT.out (by rw [HE.out]; simp [hr]), HE.out]
            simp [hr]
          · have hd : decide (hi < lo) = false := by simp [hr]
            go_wp2_with fail
            refine (F1 _).mono ?_
            rintro e w1 ⟨rfl, rfl⟩
            go_wp2_with fail
            refine (F2 _).mono ?_
            rintro e w1 ⟨rfl, rfl⟩
            go_wp2_with fail
            go_roundw
            case rel => exact ⟨k + 1, by go_num, by omega, HST.out (by rw [HE.out]; simp [hr]), HBE.out.alloc (by have := HSZ.out; rw [HZ0.out] at this; exact this) _⟩
            case measure => simp [intOf]; omega
    · obtain rfl : k = cs.length := by omega
      rw [List.take_length] at hz
      obtain ⟨g3, f3⟩ := (c0.under (by omega) hbel).get 3 _ rfl
      have HZC := hide hz
      have HBE0 := hide hbel
      clear hz hbel
      go_wp2_with fail
      go_loopw [35] (fun i ws => ∃ k : Nat, i = .int .i64 (k : Int) ∧ k ≤ gs.length ∧ (∀ c ∈ gs.take k, grpE c = 0) ∧ Below (B + 1) w0 ws) (fun i _ => gs.length - (intOf i).toNat)
      case atStart => exact ⟨0, rfl, Nat.zero_le _, by simp, HBE0.out⟩
      case round =>
        obtain ⟨k, rfl, hk, hz, hbel⟩ := hrel
        have hsz := hbel.size
        by_cases hlt : k < gs.length
        · obtain ⟨b, off, rfl, hbl, hcell⟩ := Lies.rowAt grpC 2 grpC_length HG.out k hlt (by decide)
          have hbB : b < B := by rw [HB.out]; exact hbl
          have hat := slots_atG cs gs k hlt HZC.out hz
          have hstep := all_take_succ (f := grpE) hlt hz
          have cell' : ∀ j v, (grpC gs[k])[j]? = some v → wr.cell? ⟨b, off + k * 2 + j, none⟩ = some v := fun j v hv => (hbel.cell (p := ⟨b, off + k * 2 + j, none⟩) (by simp; omega)).trans ((b0.cell (p := ⟨b, off + k * 2 + j, none⟩) (by simpa using hbB)).trans (hcell j v hv))
          generalize hck : gs[k] = ck at *
          obtain ⟨id, sm⟩ := ck
          have x0 := cell' 0 _ rfl
          have x1 := cell' 1 _ rfl
          rw [Nat.add_zero] at x0
          obtain ⟨q1, hq1⟩ : ∃ q, q = okN id := ⟨_, rfl⟩
          have F1 : ∀ w, Calls Tryd.prog 24 #[.int .i64 1, .int .i64 id, .int .i64 1048576] w fun e w' => e = .returned (.bool q1) ∧ w' = w := by rw [hq1]; exact fun w => from_any 1 id 1048576 w
          have hE : grpE ⟨id, sm⟩ = if q1 then 0 else 23 := by rw [hq1]; rfl
          have HE := hide hE
          have HAT := hide hat
          have HST := hide hstep
          have HBE := hide hbel
          have HSZ := hide hsz
          clear hE hat hstep hcell cell' hq1 hck hbel hsz hz g3 f3
          cases q1 with
          | false =>
            go_wp2_with fail
            refine (F1 _).mono ?_
            rintro e w1 ⟨rfl, rfl⟩
            go_wp2_with fail
            go_ret
            refine ⟨?_, b0.trans (((HBE.out.alloc (by have := HSZ.out; rw [HZ0.out] at this; exact this) _)).mono (by omega))⟩
            rw [HR.out, HAT.out (by rw [HE.out]; simp), HE.out]
            rfl
          | true =>
            go_wp2_with fail
            refine (F1 _).mono ?_
            rintro e w1 ⟨rfl, rfl⟩
            go_wp2_with fail
            go_roundw
            case rel => exact ⟨k + 1, by go_num, by omega, HST.out (by rw [HE.out]; simp), HBE.out.alloc (by have := HSZ.out; rw [HZ0.out] at this; exact this) _⟩
            case measure => simp [intOf]; omega
        · obtain rfl : k = gs.length := by omega
          rw [List.take_length] at hz
          have HE := hide (slots_none cs gs HZC.out hz)
          have HBE := hide hbel
          clear hz hbel g3 f3
          go_wp2_with fail
          go_ret
          exact ⟨by rw [HR.out, HE.out]; rfl, b0.trans (HBE.out.mono (by omega))⟩
end Go.Proofs.YtakjpljpdlhicaaDoor
