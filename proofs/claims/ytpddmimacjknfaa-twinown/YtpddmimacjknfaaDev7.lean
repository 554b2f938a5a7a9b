import Derived.Test.YtpddmimacjknfaaDev6
namespace Go.Proofs.Ytpddmimacjknfaa
open Go.RowKit Go.QK

set_option maxHeartbeats 1000000 in
set_option maxRecDepth 100000 in
theorem sync_any {w : World} {S : Nat → Prop} {d : Nat} {g : Dev} (h : PDev w S d g) (hpl : g.pend.length ≤ 1000000) (hcl : g.calls ≤ 1000000) :
    Calls Try.prog 54 #[.pointer (some ⟨d, 0, none⟩)] w fun e w' => e = .returned (.int .i64 ((g.syncE : Nat) : Int)) ∧ PDev w' S d g.sync ∧ Keep S w w' := by
  obtain ⟨ib, ic, pv, ps, kv, tn, off, hc, hb, hp, ok⟩ := h
  obtain ⟨c3, f3⟩ := hc.get 3 _ rfl
  have hdl := hc.1
  have hps : ps.length ≤ 1000000 := by rw [hp] at hpl; simpa using hpl
  unfold Dev.syncE Dev.sync
  by_cases hd : g.down = true
  · rw [hd] at c3
    rw [if_pos (Or.inl hd), if_pos hd]
    have HC := hide hc
    have HB := hide hb
    clear hc hb
    go_enter Try.func54, Try.ntmps54
    go_wp2_with fail
    go_ret
    exact ⟨rfl, ⟨ib, ic, pv, ps, kv, tn, off, HC.out, HB.out, hp, ok⟩, Keep.refl _ _⟩
  · simp only [Bool.not_eq_true] at hd
    rw [hd] at c3
    have ST := hide (strikes_at hc hcl ok.left)
    have HB := hide hb
    clear hc hb
    by_cases hl : g.left = 1
    · rw [if_pos (Or.inr hl), if_neg (by rw [hd]; decide), if_pos hl]
      obtain ⟨l, hgl⟩ := ok.arm (by omega)
      obtain ⟨rfl, rfl, a, c, rfl, hseen, hnil, hap⟩ := HB.out.loss l hgl
      have hD : decide (g.left = 1) = true := by simp [hl]
      rw [hD] at ST
      go_enter Try.func54, Try.ntmps54
      go_wp2_with fail
      refine ST.out.mono ?_
      rintro e w1 ⟨rfl, hc1, hk1⟩
      have hb1 := HB.out.keep hk1 (fun _ q _ => q)
      have hs1 := Seen.keep hseen hk1 (fun ad had => (hap ad had).2.1)
      have G := hide (giveUp_at hc1 hb1 (pend_fits hp ok) ok.bytes (img_le' ok) hps l a c hs1 (fun _ ad had => ⟨(hap ad had).2.1, (hap ad had).2.2.1⟩) (ok.loss l hgl))
      obtain ⟨u5, _⟩ := hc1.get 5 _ rfl
      obtain ⟨u6, _⟩ := hc1.get 6 _ rfl
      obtain ⟨u7, _⟩ := hc1.get 7 _ rfl
      have HK1 := hide hk1
      clear hc1 hk1 hb1 hs1 hseen ST
      go_wp2_with fail
      refine G.out.mono ?_
      rintro e w2 ⟨⟨v, rfl⟩, c2, b2, k2⟩
      have C2 := hide c2
      have K2 := hide k2
      have B2 := hide b2
      clear c2 k2 b2 G u5 u6 u7
      go_wp2_with fail
      go_ret
      have e0 : g.strike.crashes = g.strike.fall l := by unfold Dev.crashes; rw [show g.strike.loss = some l from hgl]
      rw [e0]
      refine ⟨rfl, ⟨ib, ic, .slice none 0 0, [], .slice none 0 0, 0, 0, ?_, ?_, rfl, ok.strike.fall l⟩, ?_⟩
      · have e : (g.strike.fall l).img.length = g.img.length := (fallFrom_ok l g.pend 0 g.img ok.pend rfl ok.bytes).1
        rw [e]
        exact C2.out
      · show Body w2 S d (fallFrom l 0 g.pend g.img) _ _ _ _ _ _ _ _
        rw [hp]
        exact B2.out
      · exact (HK1.out.mono (fun j _ q => by subst q; exact HB.out.dS)).trans K2.out (fun j _ q => by rcases q with rfl | rfl; exact HB.out.dS; exact HB.out.iS.1)
    · rw [if_neg (by rintro (q | q); rw [hd] at q; cases q; exact hl q), if_neg (by rw [hd]; decide), if_neg hl]
      have hD : decide (g.left = 1) = false := by simp [hl]
      rw [hD] at ST
      obtain ⟨pa, pc, hpv, hpn, hple, hpm, hrow⟩ := HB.out.row.form
      subst hpv
      have HROW := hide hrow
      have HF := hide (pend_fits hp ok)
      have him := img_le' ok
      have hibl : ib < w.heap.size := HB.out.lt _ HB.out.iS.1
      clear hrow
      go_enter Try.func54, Try.ntmps54
      go_wp2_with fail
      refine ST.out.mono ?_
      rintro e w1 ⟨rfl, hc1, hk1⟩
      obtain ⟨u1, _⟩ := hc1.get 1 _ rfl
      have hs1 := hk1.size
      have C1 := hide hc1
      have HK1 := hide hk1
      have B1 := hide (HB.out.keep hk1 (fun _ q _ => q))
      clear hc1 hk1 ST
      go_wp2_with fail
      go_loopw [22] (fun i wr => ∃ k : Nat, k ≤ ps.length ∧ i = .int .i64 (k : Int) ∧ OwnB wr 0 (.slice (some ⟨ib, 0, none⟩) g.img.length ic) (syncAll (g.pend.take k) g.img) ∧ Keep (fun j => j = ib) w1 wr) (fun i _ => ps.length - (intOf i).toNat)
      case atStart => exact ⟨0, Nat.zero_le _, rfl, B1.out.img, Keep.refl _ _⟩
      case round =>
        obtain ⟨k, hk, rfl, hown, hkeep⟩ := hrel
        have gsz := hkeep.size
        have LEN := hide (syncAll_ok (g.pend.take k) g.img (fun p hp => ok.pend p (List.mem_of_mem_take hp)) rfl ok.bytes).1
        by_cases hlt : k < ps.length
        · obtain ⟨pb, rfl, hpb, p0, p1⟩ := B1.out.row.form' k hlt
          have hpr := B1.out.rS pb rfl
          have q0 := (hkeep.cell (p := ⟨pb, k * 2, none⟩) hpb hpr.2.2).trans p0
          have q1 := (hkeep.cell (p := ⟨pb, k * 2 + 1, none⟩) hpb hpr.2.2).trans p1
          obtain ⟨e1, e2, e2', e3, e4, e5, e6⟩ := B1.out.en ps[k] (List.getElem_mem hlt)
          obtain ⟨f1, f2, f3⟩ := HF.out ps[k] (List.getElem_mem hlt)
          have hbl : ps[k].b.length = 512 := f2
          unfold PE.v at q1
          rw [hbl] at q1
          have hlk : (k : Int) < (ps.length : Int) := by omega
          have c0 := (hkeep.cell (p := ⟨d, 0, none⟩) C1.out.1 (fun q => HB.out.iS.2 q.symm)).trans (C1.out.get 0 _ rfl).1
          have P1 := hide (Seen.keep e1 hkeep (fun ad had => by cases had; exact e5))
          have STEP := hide (syncAll_take g.pend g.img k (by rw [hp]; simpa using hlt))
          have EK := hide (show g.pend[k]'(by rw [hp]; simpa using hlt) = ps[k].out by simp [hp])
          have hH := hide hown
          have hKP := hide hkeep
          have bA := alloc_below wr (.cells #[.int .i64 (ps[k].s : Int), .slice (some ⟨ps[k].k, 0, none⟩) 512 ps[k].c] 102)
          clear hown hkeep p0 p1
          go_wp2_with fail
          refine (land_at (img := syncAll (g.pend.take k) g.img) (n := 512) (by rw [LEN.out]; exact (bA.cell (p := ⟨d, 0, none⟩) (by show d < _; omega)).trans c0) (by simp; omega) (by rw [LEN.out]; exact Owns.below hH.out bA) (Seen.below P1.out bA) hbl (by omega) (by rw [LEN.out]; exact f1) (by rw [LEN.out]; exact him) (Nat.le_refl _)).mono ?_
          rintro e w3 ⟨⟨v3, rfl⟩, o3, k3⟩
          have o4 : OwnB w3 0 (.slice (some ⟨ib, 0, none⟩) g.img.length ic) (syncAll (g.pend.take (k + 1)) g.img) := by
            rw [STEP.out, EK.out]
            have e := o3
            rw [LEN.out] at e
            exact e
          have O4 := hide o4
          have K4 := hide ((hKP.out.then_below bA).trans k3 (fun _ _ q => q))
          clear o3 o4 k3 P1 c0 q0 q1
          go_wp2_with fail
          go_roundw
          case rel => exact ⟨k + 1, by omega, by go_num, O4.out, K4.out⟩
          case measure => simp [intOf]; omega
        · obtain rfl : k = ps.length := by omega
          have hpe : g.pend.length = ps.length := by rw [hp]; simp
          rw [List.take_of_length_le (by omega)] at hown LEN
          have BB := hide (B1.out.image (img' := syncAll g.pend g.img) hkeep (by rw [LEN.out]; exact hown))
          have CC := hide (C1.out.keep hkeep (fun q => HB.out.iS.2 q.symm))
          obtain ⟨v1, g1⟩ := CC.out.get 1 _ rfl
          have HKK := hide hkeep
          clear hown hkeep u1
          go_wp2_with fail
          go_ret
          refine ⟨rfl, ⟨ib, ic, .slice none 0 0, [], kv, tn, off, ?_, ?_, rfl, ok.strike.settle⟩, ?_⟩
          · have e : g.strike.settle.img.length = g.img.length := LEN.out
            rw [e]
            exact CC.out.stored (j := 1) (by simp) _
          · exact (BB.out.set 1 _).drop
          · refine ((HK1.out.mono (fun j _ q => by subst q; exact HB.out.dS)).trans HKK.out (fun j _ q => by subst q; exact HB.out.iS.1)).trans ((Keep.refl (fun j => j = d) wr).setCell (fun _ => rfl) _) (fun j _ q => by subst q; exact HB.out.dS)
end Go.Proofs.Ytpddmimacjknfaa
