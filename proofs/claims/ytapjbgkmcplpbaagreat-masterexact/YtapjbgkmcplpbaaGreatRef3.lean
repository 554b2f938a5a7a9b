import Derived.Test.YtapjbgkmcplpbaaGreatG28
namespace Go.Proofs.YtapjbgkmcplpbaaGreat
open Go.RowKit Go.QK

/-- What the document's 'fall' lays of a write. -/
def laysN (l : Loss) (k : Nat) : Nat := if keptN l.keep k = true then 512 else if (k : Int) = l.torn then (max l.off 0).toNat else 0
theorem laysN_lay (l : Loss) (k : Nat) (img : List Nat) (s : Nat) (b : List Nat) (hb : b.length = 512) : lay img s b (laysN l k) = lay img s b (leavesN l k) := by
  unfold laysN leavesN
  split
  · rfl
  · split
    · by_cases q : (max l.off 0).toNat ≤ 512
      · congr 1; omega
      · rw [lay_all hb (by omega)]
        congr 1; omega
    · rfl
theorem lay_at' {w : World} {d ib ic k c s n : Nat} {img b : List Nat} {ni : Int} (hni : ni = (n : Int)) (c0 : w.cell? ⟨d, 0, none⟩ = some (.slice (some ⟨ib, 0, none⟩) img.length ic)) (hd : d < w.heap.size) (hdi : d ≠ ib) (hi : OwnB w 0 (.slice (some ⟨ib, 0, none⟩) img.length ic) img)
    (hb : Bytes w (some ⟨k, 0, none⟩) b) (hki : k ≠ ib) (hbl : b.length = 512) (hs : 512 * s + 512 ≤ img.length) (hm : img.length ≤ 4194304) :
    Calls Tryz.prog 62 #[.pointer (some ⟨d, 0, none⟩), .agg #[.int .i64 (s : Int), .slice (some ⟨k, 0, none⟩) 512 c], .int .i64 ni] w fun e w' => (∃ v, e = .returned v) ∧ OwnB w' 0 (.slice (some ⟨ib, 0, none⟩) img.length ic) (lay img s b n) ∧ Keep (fun j => j = ib) w w' := by
  subst hni
  exact lay_at c0 hd hdi hi hb hki hbl hs hm

set_option maxHeartbeats 1000000 in
set_option maxRecDepth 100000 in
theorem fall_at {w : World} {S : Nat → Prop} {d : Nat} {img : List Nat} {loss : Option Loss} {ib ic : Nat} {pv : Value} {ps : List PE} {kv : Value} {tn off : Int} {a2 a3 a4 a5 a6 a7 : Value}
    (hc : Cells w d [.slice (some ⟨ib, 0, none⟩) img.length ic, pv, a2, a3, a4, a5, a6, a7]) (hb : Body w S d img loss ib ic pv ps kv tn off) (hf : ∀ p ∈ ps, Fits img.length p.out) (hab : AllB img) (him : img.length ≤ 4194304) (hpl : ps.length ≤ 1000000)
    (l : Loss) (a : Option Addr) (c : Nat) (hs : Seen .u64 w a (ints l.keep)) (ha : l.keep ≠ [] → ∀ ad, a = some ad → ad.block ≠ d ∧ ad.block ≠ ib) (ok : l.Ok) :
    Calls Tryz.prog 58 #[.pointer (some ⟨d, 0, none⟩), .agg #[.slice a l.keep.length c, .int .i64 l.torn, .int .i64 l.off]] w fun e w' => (∃ v, e = .returned v) ∧
      Cells w' d [.slice (some ⟨ib, 0, none⟩) img.length ic, .slice none 0 0, .bool true, a3, .int .i64 0, a5, a6, a7] ∧
      (∀ kv' tn' off', Body w' S d (fallFrom l 0 (ps.map PE.out) img) none ib ic (.slice none 0 0) [] kv' tn' off') ∧ Keep (fun b => b = d ∨ b = ib) w w' := by
  obtain ⟨pa, pc, hpv, hpn, hple, hpm, hrow⟩ := hb.row.form
  subst hpv
  obtain ⟨c0, _⟩ := hc.get 0 _ rfl
  obtain ⟨c1, f1⟩ := hc.get 1 _ rfl
  have hdl := hc.1
  have hibl : ib < w.heap.size := hb.lt _ hb.iS.1
  have B0 := alloc_below w (.cells #[.slice a l.keep.length c, .int .i64 l.torn, .int .i64 l.off] 33)
  have z0 : (w.alloc (.cells #[.slice a l.keep.length c, .int .i64 l.torn, .int .i64 l.off] 33)).cell? ⟨w.heap.size, 0, none⟩ = some (.slice a l.keep.length c) := by rw [World.cell?_alloc_new]; rfl
  have z1 : (w.alloc (.cells #[.slice a l.keep.length c, .int .i64 l.torn, .int .i64 l.off] 33)).cell? ⟨w.heap.size, 1, none⟩ = some (.int .i64 l.torn) := by rw [World.cell?_alloc_new]; rfl
  have z2 : (w.alloc (.cells #[.slice a l.keep.length c, .int .i64 l.torn, .int .i64 l.off] 33)).cell? ⟨w.heap.size, 2, none⟩ = some (.int .i64 l.off) := by rw [World.cell?_alloc_new]; rfl
  have SZ : (w.alloc (.cells #[.slice a l.keep.length c, .int .i64 l.torn, .int .i64 l.off] 33)).heap.size = w.heap.size + 1 := by simp
  obtain ⟨W0, hW0⟩ : ∃ W0, W0 = w.alloc (.cells #[.slice a l.keep.length c, .int .i64 l.torn, .int .i64 l.off] 33) := ⟨_, rfl⟩
  rw [← hW0] at B0 z0 z1 z2 SZ
  have HW0 := hide hW0.symm
  have HC := hide hc
  have HB := hide hb
  have HF := hide hf
  have HROW := hide hrow
  have HAB := hide hab
  clear hc hb hf hrow hab hW0
  go_enter Tryz.func58, Tryz.ntmps58
  go_wp2_with fail
  rw [HW0.out]
  go_loopw [4] (fun i wr => ∃ k : Nat, k ≤ ps.length ∧ i = .int .i64 (k : Int) ∧ OwnB wr 0 (.slice (some ⟨ib, 0, none⟩) img.length ic) (fallFrom l 0 ((ps.map PE.out).take k) img) ∧ Keep (fun j => j = ib) W0 wr) (fun i _ => ps.length - (intOf i).toNat)
  case atStart => exact ⟨0, Nat.zero_le _, rfl, Owns.below HB.out.img B0, Keep.refl _ _⟩
  case round =>
    obtain ⟨k, hk, rfl, hown, hkeep⟩ := hrel
    have gsz := hkeep.size
    by_cases hlt : k < ps.length
    · obtain ⟨pb, rfl, hpb, p0, p1⟩ := HROW.out k hlt
      have hpr := HB.out.rS pb rfl
      have KW := (Keep.of_below B0).trans hkeep (fun _ _ q => q)
      obtain ⟨e1, e2, e2', e3, e4, e5, e6⟩ := HB.out.en ps[k] (List.getElem_mem hlt)
      obtain ⟨f1, f2, f3⟩ := HF.out ps[k] (List.getElem_mem hlt)
      have hbl : ps[k].b.length = 512 := f2
      unfold PE.v at p1
      rw [hbl] at p1
      have hlk : (k : Int) < (ps.length : Int) := by omega
      have hfs : 512 * ps[k].s + 512 ≤ img.length := f1
      have n3 : ¬ w.heap.size = ib := by omega
      have u0 := (hkeep.cell (p := ⟨w.heap.size, 0, none⟩) (by show w.heap.size < _; omega) n3).trans z0
      have u1 := (hkeep.cell (p := ⟨w.heap.size, 1, none⟩) (by show w.heap.size < _; omega) n3).trans z1
      have u2 := (hkeep.cell (p := ⟨w.heap.size, 2, none⟩) (by show w.heap.size < _; omega) n3).trans z2
      have v1 := (KW.cell (p := ⟨d, 1, none⟩) hdl (fun q => HB.out.iS.2 q.symm)).trans c1
      have SE := Seen.keep' hs KW (fun hx ad had => (ha (ints_ne hx) ad had).2)
      have KP := hide (kept_any a l.keep c k l.torn l.off wr SE (by omega) ok.keep)
      have FIN : Hid (∀ w4, Below wr.heap.size wr w4 → w4.cell? ⟨d, 0, none⟩ = some (.slice (some ⟨ib, 0, none⟩) img.length ic) ∧ w4.cell? ⟨d, 1, none⟩ = some (.slice (some ⟨pb, 0, none⟩) ps.length pc) ∧ d < w4.heap.size ∧ OwnB w4 0 (.slice (some ⟨ib, 0, none⟩) img.length ic) (fallFrom l 0 ((ps.map PE.out).take k) img) ∧ Bytes w4 (some ⟨ps[k].k, 0, none⟩) ps[k].b ∧ w4.cell? ⟨pb, k * 2, none⟩ = some (.int .i64 (ps[k].s : Int)) ∧ w4.cell? ⟨pb, k * 2 + 1, none⟩ = some (.slice (some ⟨ps[k].k, 0, none⟩) 512 ps[k].c) ∧ Keep (fun j => j = ib) W0 w4) := by
        intro w4 b4
        have KK := KW.then_below b4
        exact ⟨(KK.cell (p := ⟨d, 0, none⟩) hdl (fun q => HB.out.iS.2 q.symm)).trans c0, (KK.cell (p := ⟨d, 1, none⟩) hdl (fun q => HB.out.iS.2 q.symm)).trans c1, Nat.lt_of_lt_of_le hdl KK.size, Owns.below hown b4, Seen.keep e1 KK (fun ad had => by cases had; exact e5), (KK.cell (p := ⟨pb, k * 2, none⟩) hpb hpr.2.2).trans p0, (KK.cell (p := ⟨pb, k * 2 + 1, none⟩) hpb hpr.2.2).trans p1, hkeep.then_below b4⟩
      have LEN := hide (fallFrom_ok l ((ps.map PE.out).take k) 0 img (fun p hp => by
        obtain ⟨q, hq, rfl⟩ := List.mem_map.1 (List.mem_of_mem_take hp)
        exact HF.out q hq) rfl HAB.out).1
      have STEP := hide (fallFrom_take l (ps.map PE.out) img k (by simpa using hlt))
      have LN := hide (laysN_lay l k (fallFrom l 0 ((ps.map PE.out).take k) img) ps[k].s ps[k].b hbl)
      have hdi : d ≠ ib := fun q => HB.out.iS.2 q.symm
      have hLN : Hid (laysN l k = if keptN l.keep k = true then 512 else if (k : Int) = l.torn then (max l.off 0).toNat else 0) := rfl
      clear hown hkeep p0 p1 KW SE hs
      generalize laysN l k = N at *
      by_cases ht : (k : Int) = l.torn
      · have ht' : ((k : Int) == l.torn) = true := by simp [ht]
        have HT := hide ht
        clear ht
        cases hq : keptN l.keep k with
        | true =>
          have HN := hide (show (512 : Int) = (N : Int) by rw [hLN.out, if_pos hq]; rfl)
          rw [hq] at KP
          clear hq hLN
          by_cases ho : 0 ≤ l.off
          all_goals
            go_wp2_with fail
            refine KP.out.mono ?_
            rintro e w4 ⟨rfl, b4⟩
            obtain ⟨y0, y1, y2, y3, y4, y5, y6, y7⟩ := FIN.out w4 b4
            have Y := hide (lay_at' (w := w4) (d := d) (c := ps[k].c) HN.out (by rw [LEN.out]; exact y0) y2 hdi (by rw [LEN.out]; exact y3) y4 e5 hbl (by rw [LEN.out]; exact hfs) (by rw [LEN.out]; exact him))
            have Y7 := hide y7
            clear y3 y4 y7 FIN KP
            go_wp2_with fail
            refine Y.out.mono ?_
            rintro e w5 ⟨⟨v5, rfl⟩, o5, k5⟩
            have O6 : Hid (OwnB w5 0 (.slice (some ⟨ib, 0, none⟩) img.length ic) (fallFrom l 0 ((ps.map PE.out).take (k + 1)) img)) := by
              have e := o5
              rw [LEN.out, LN.out] at e
              show OwnB _ _ _ _
              rw [STEP.out]
              simpa [PE.out] using e
            have K6 := hide (Y7.out.trans k5 (fun _ _ q => q))
            clear o5 k5 Y Y7
            go_wp2_with fail
            go_roundw
            case rel => exact ⟨k + 1, by omega, by go_num, O6.out, K6.out⟩
            case measure => simp [intOf]; omega
        | false =>
          rw [hq] at KP
          have hN2 : N = (max l.off 0).toNat := by rw [hLN.out, if_neg (by rw [hq]; decide), if_pos HT.out]
          by_cases ho : 0 ≤ l.off
          all_goals
            have HN : Hid ((if 0 ≤ l.off then l.off else 0 : Int) = (N : Int)) := by
              show _ = _
              split <;> omega
            first | rw [if_pos ho] at HN | rw [if_neg ho] at HN
            clear hq hLN hN2
            go_wp2_with fail
            refine KP.out.mono ?_
            rintro e w4 ⟨rfl, b4⟩
            obtain ⟨y0, y1, y2, y3, y4, y5, y6, y7⟩ := FIN.out w4 b4
            have Y := hide (lay_at' (w := w4) (d := d) (c := ps[k].c) HN.out (by rw [LEN.out]; exact y0) y2 hdi (by rw [LEN.out]; exact y3) y4 e5 hbl (by rw [LEN.out]; exact hfs) (by rw [LEN.out]; exact him))
            have Y7 := hide y7
            clear y3 y4 y7 FIN KP
            go_wp2_with fail
            refine Y.out.mono ?_
            rintro e w5 ⟨⟨v5, rfl⟩, o5, k5⟩
            have O6 : Hid (OwnB w5 0 (.slice (some ⟨ib, 0, none⟩) img.length ic) (fallFrom l 0 ((ps.map PE.out).take (k + 1)) img)) := by
              have e := o5
              rw [LEN.out, LN.out] at e
              show OwnB _ _ _ _
              rw [STEP.out]
              simpa [PE.out] using e
            have K6 := hide (Y7.out.trans k5 (fun _ _ q => q))
            clear o5 k5 Y Y7
            go_wp2_with fail
            go_roundw
            case rel => exact ⟨k + 1, by omega, by go_num, O6.out, K6.out⟩
            case measure => simp [intOf]; omega
      · have ht' : ((k : Int) == l.torn) = false := by simpa using ht
        cases hq : keptN l.keep k with
        | true =>
          have HN := hide (show (512 : Int) = (N : Int) by rw [hLN.out, if_pos hq]; rfl)
          rw [hq] at KP
          clear hq hLN ht
          go_wp2_with fail
          refine KP.out.mono ?_
          rintro e w4 ⟨rfl, b4⟩
          obtain ⟨y0, y1, y2, y3, y4, y5, y6, y7⟩ := FIN.out w4 b4
          have Y := hide (lay_at' (w := w4) (d := d) (c := ps[k].c) HN.out (by rw [LEN.out]; exact y0) y2 hdi (by rw [LEN.out]; exact y3) y4 e5 hbl (by rw [LEN.out]; exact hfs) (by rw [LEN.out]; exact him))
          have Y7 := hide y7
          clear y3 y4 y7 FIN KP
          go_wp2_with fail
          refine Y.out.mono ?_
          rintro e w5 ⟨⟨v5, rfl⟩, o5, k5⟩
          have O6 : Hid (OwnB w5 0 (.slice (some ⟨ib, 0, none⟩) img.length ic) (fallFrom l 0 ((ps.map PE.out).take (k + 1)) img)) := by
            have e := o5
            rw [LEN.out, LN.out] at e
            show OwnB _ _ _ _
            rw [STEP.out]
            simpa [PE.out] using e
          have K6 := hide (Y7.out.trans k5 (fun _ _ q => q))
          clear o5 k5 Y Y7
          go_wp2_with fail
          go_roundw
          case rel => exact ⟨k + 1, by omega, by go_num, O6.out, K6.out⟩
          case measure => simp [intOf]; omega
        | false =>
          have HN := hide (show (0 : Int) = (N : Int) by rw [hLN.out, if_neg (by rw [hq]; decide), if_neg ht]; rfl)
          rw [hq] at KP
          clear hq hLN ht
          go_wp2_with fail
          refine KP.out.mono ?_
          rintro e w4 ⟨rfl, b4⟩
          obtain ⟨y0, y1, y2, y3, y4, y5, y6, y7⟩ := FIN.out w4 b4
          have Y := hide (lay_at' (w := w4) (d := d) (c := ps[k].c) HN.out (by rw [LEN.out]; exact y0) y2 hdi (by rw [LEN.out]; exact y3) y4 e5 hbl (by rw [LEN.out]; exact hfs) (by rw [LEN.out]; exact him))
          have Y7 := hide y7
          clear y3 y4 y7 FIN KP
          go_wp2_with fail
          refine Y.out.mono ?_
          rintro e w5 ⟨⟨v5, rfl⟩, o5, k5⟩
          have O6 : Hid (OwnB w5 0 (.slice (some ⟨ib, 0, none⟩) img.length ic) (fallFrom l 0 ((ps.map PE.out).take (k + 1)) img)) := by
            have e := o5
            rw [LEN.out, LN.out] at e
            show OwnB _ _ _ _
            rw [STEP.out]
            simpa [PE.out] using e
          have K6 := hide (Y7.out.trans k5 (fun _ _ q => q))
          clear o5 k5 Y Y7
          go_wp2_with fail
          go_roundw
          case rel => exact ⟨k + 1, by omega, by go_num, O6.out, K6.out⟩
          case measure => simp [intOf]; omega
    · obtain rfl : k = ps.length := by omega
      rw [List.take_of_length_le (by simp)] at hown
      have KK : Keep (fun j => j = ib) w wr := (Keep.of_below B0).trans hkeep (fun _ _ q => q)
      have LEN := (fallFrom_ok l (ps.map PE.out) 0 img (fun p hp => by
        obtain ⟨q, hq, rfl⟩ := List.mem_map.1 hp
        exact HF.out q hq) rfl HAB.out).1
      have BB := hide (HB.out.image (img' := fallFrom l 0 (ps.map PE.out) img) KK (by rw [LEN]; exact hown))
      have CC := hide (HC.out.keep KK (fun q => HB.out.iS.2 q.symm))
      obtain ⟨u1, g1⟩ := CC.out.get 1 _ rfl
      obtain ⟨u2, g2⟩ := CC.out.get 2 _ rfl
      obtain ⟨u4, g4⟩ := CC.out.get 4 _ rfl
      have HKK := hide KK
      clear KK LEN hown hkeep c0 c1 f1 hs z0 z1 z2
      go_wp2_with fail
      go_end0
      have KD : Keep (fun j => j = d) wr (((wr.setCell ⟨d, 1, none⟩ (.slice none 0 0)).setCell ⟨d, 2, none⟩ (.bool true)).setCell ⟨d, 4, none⟩ (.int .i64 0)) := (((Keep.refl (fun j => j = d) wr).setCell (fun _ => rfl) _).setCell (fun _ => rfl) _).setCell (fun _ => rfl) _
      refine ⟨⟨_, rfl⟩, ((CC.out.stored (j := 1) (by simp) _).stored (j := 2) (by simp) _).stored (j := 4) (by simp) _, ?_, ?_⟩
      · intro kv' tn' off'
        exact ((BB.out.keep KD (fun _ q _ => q)).drop).forget _ _ _
      · exact (HKK.out.mono (fun _ _ q => .inr q)).trans KD (fun _ _ q => .inl q)
end Go.Proofs.YtapjbgkmcplpbaaGreat
