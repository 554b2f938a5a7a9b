import Derived.Test.YtapjbgkmcplpbaaGreatRMas1
import Derived.Test.YtapjbgkmcplpbaaGreatG21
namespace Go.Proofs.YtapjbgkmcplpbaaGreat
open Go.RowKit Go.QK

theorem Dev.size_n {g : Dev} (ok : g.Ok) : g.img.length = 512 * g.n ∧ g.n ≤ 8192 := by
  obtain ⟨n, h1, h2, e⟩ := ok.size
  unfold Dev.n
  omega
set_option maxHeartbeats 4000000 in
set_option maxRecDepth 100000 in
theorem rStands_any {w : World} {S : Nat → Prop} {d : Nat} {g : Dev} (h : RDev w S d g) (hn : 2 ≤ g.n) (hpl : g.pend.length ≤ 1000000) :
    Calls Tryz.prog 76 #[.pointer (some ⟨d, 0, none⟩)] w fun r w' => r = .returned (.tuple #[.agg (slotC g.openS), .int .i64 ((g.openE : Nat) : Int)]) ∧ Below w.heap.size w w' := by
  obtain ⟨rt, hrt⟩ : ∃ rt, rt = g.openS := ⟨_, rfl⟩
  obtain ⟨rb, hrb⟩ : ∃ rb, rb = g.openE := ⟨_, rfl⟩
  rw [← hrt, ← hrb]
  unfold Dev.openS at hrt
  unfold Dev.openE at hrb
  obtain ⟨sz, n8⟩ := Dev.size_n h.ok
  obtain ⟨w1, hw1⟩ : ∃ w1, w1 = w.alloc (.cells zero5 113) := ⟨_, rfl⟩
  have z1 : w1.heap.size = w.heap.size + 1 := by rw [hw1]; simp
  have b1 : Below w.heap.size w w1 := by rw [hw1]; exact alloc_below _ _
  have R1 : SlotAt w1 w.heap.size Slot.none := by rw [hw1]; exact Cells.new w zero5 113
  have P1 := h.below b1
  have KD := rDown_any P1
  have HP := hide P1
  have HW1 := hide hw1
  have R1H := hide R1
  have B1 := hide b1
  have Z1 := hide z1
  unfold zero5 at HW1
  clear hw1 b1 h z1 P1
  have q0 := R1.at0
  have q1 := R1.at1
  have q2 := R1.at2
  have q3 := R1.at3
  have q4 := R1.at4
  have r0 := R1.fr 0 (by omega)
  have r1 := R1.fr 1 (by omega)
  have r2 := R1.fr 2 (by omega)
  have r3 := R1.fr 3 (by omega)
  have r4 := R1.fr 4 (by omega)
  simp only [Slot.none] at q0 q1 q2 q3 q4
  clear R1
  cases hd : g.down with
  | true =>
    rw [hd] at KD hrt hrb
    have KD := hide KD
    have FA := hide (show Ending.returned (.tuple #[.agg (slotC rt), .int .i64 ((rb : Nat) : Int)]) = Ending.returned (.tuple #[.agg (slotC Slot.none), .int .i64 40]) by rw [hrt, hrb]; rfl)
    obtain ⟨w3, hw3⟩ : ∃ w3, w3 = put0 w1 w.heap.size := ⟨_, rfl⟩
    have E3 := hide (show SlotAt w3 w.heap.size Slot.none by rw [hw3]; exact R1H.out.put5 Slot.none)
    have B3 := hide (show Below w.heap.size w w3 by rw [hw3]; exact B1.out.trans ((put5_keep w1 w.heap.size Slot.none).below B1.out.size (fun k hk => by omega)))
    unfold put0 at hw3
    have HW3 := hide hw3
    clear hrt hrb hd hw3
    go_enter Tryz.func76, Tryz.ntmps76
    go_upto_region 3 with fail
    rw [← HW1.out]
    clear HW1
    go_wp2_with fail
    refine KD.out.mono ?_
    rintro e w' ⟨rfl, hw⟩
    obtain rfl : w1 = w' := hw.symm
    go_wp2_with fail
    rw [← HW3.out]
    have j0 := E3.out.at0
    have j1 := E3.out.at1
    have j2 := E3.out.at2
    have j3 := E3.out.at3
    have j4 := E3.out.at4
    exact bodyPost_ret (v := .tuple #[.agg (slotC Slot.none), .int .i64 40]) (by simp [results, Tryz.results76, go_sem, j0, j1, j2, j3, j4, slotC]) rfl ⟨FA.out.symm, B3.out⟩
  | false =>
    rw [hd] at KD hrt hrb
    simp only [Bool.false_eq_true, if_false] at hrt hrb
    have KD := hide KD
    have e0 : g.reach 0 = 0 := by unfold Dev.reach; rw [hd, if_neg (by decide), if_neg (by omega)]
    have e1 : g.reach 1 = 0 := by unfold Dev.reach; rw [hd, if_neg (by decide), if_neg (by omega)]
    have c0 : g.readB 0 = g.content 0 := by unfold Dev.readB; rw [if_pos e0]; rfl
    have c1 : g.readB 1 = g.content 1 := by unfold Dev.readB; rw [if_pos e1]; rfl
    have l0 := content_len HP.out.ok 0 (by omega)
    have l1 := content_len HP.out.ok 1 (by omega)
    have a0 := content_allB HP.out.ok 0
    have a1 := content_allB HP.out.ok 1
    have mm := mas_master hn
    have KR := rRead_any HP.out 0 hpl
    rw [e0, c0, show ((0 : Nat) : Int) = 0 from rfl] at KR
    have KR1 : ∀ w', Below w1.heap.size w1 w' → Calls Tryz.prog 65 #[.pointer (some ⟨d, 0, none⟩), .int .i64 1] w' fun e w'' => ∃ v, e = .returned (.tuple #[v, .int .i64 0]) ∧ OwnB w'' w'.heap.size v (g.content 1) ∧ Below w'.heap.size w' w'' := fun w' hw' => by
      have K := rRead_any (HP.out.below hw') 1 hpl
      rw [e1, c1] at K
      exact K
    have KN : ∀ w', Below w1.heap.size w1 w' → Calls Tryz.prog 74 #[.pointer (some ⟨d, 0, none⟩)] w' fun e w'' => e = .returned (.int .i64 ((g.n : Nat) : Int)) ∧ w'' = w' := fun w' hw' => rSectors_any (HP.out.below hw')
    obtain ⟨n, hgn⟩ : ∃ n, n = g.n := ⟨_, rfl⟩
    rw [← hgn] at mm KN n8
    obtain ⟨L, hL⟩ : ∃ L, L = g.content 0 := ⟨_, rfl⟩
    obtain ⟨M, hM⟩ : ∃ M, M = g.content 1 := ⟨_, rfl⟩
    rw [← hL] at KR l0 a0 mm
    rw [← hM] at KR1 l1 a1 mm
    obtain ⟨mt, hmt⟩ : ∃ mt, mt = masT L M n := ⟨_, rfl⟩
    obtain ⟨mb, hmb⟩ : ∃ mb, mb = masB L M n := ⟨_, rfl⟩
    have KM : ∀ (a b : Option Addr) (c e : Nat) (w' : World), Bytes w' a L → Bytes w' b M → Calls Tryz.prog 89 #[.slice a 512 c, .slice b 512 e, .int .i64 (n : Int)] w' fun r w'' => r = .returned (.tuple #[.agg (slotC mt), .bool mb]) ∧ Below w'.heap.size w' w'' := fun a b c e w' h1 h2 => by
      rw [hmt, hmb]
      exact rMaster_any a b L M c e n w' h1 l0 a0 h2 l1 a1 n8
    rw [← hmt, ← hmb] at mm
    have MM := hide mm
    have KR := hide KR
    have KR1 := hide KR1
    have KN := hide KN
    have KM := hide KM
    have HRT := hide hrt
    have HRB := hide hrb
    have L0 := hide l0
    have L1 := hide l1
    clear hrt hrb hd e0 e1 c0 c1 l0 l1 a0 a1 mm hmt hmb hL hM hgn q0 q1 q2 q3 q4 r0 r1 r2 r3 r4 sz hn n8
    unfold slotC at KM
    go_enter Tryz.func76, Tryz.ntmps76
    go_upto_region 3 with fail
    rw [← HW1.out]
    clear HW1
    go_wp2_with fail
    refine KD.out.mono ?_
    rintro e w' ⟨rfl, hw⟩
    obtain rfl : w1 = w' := hw.symm
    clear KD
    go_wp2_with fail
    refine KR.out.mono ?_
    rintro e w2 ⟨v2, rfl, o2, b2⟩
    obtain ⟨a2, c2, e2, s2, _⟩ := Owns.seen o2
    rw [ints_length, L0.out] at e2
    subst e2
    have S2 := hide s2
    have KK := hide (KR1.out w2 b2)
    have B2 := hide b2
    clear o2 s2 b2 KR KR1
    go_wp2_with fail
    refine KK.out.mono ?_
    rintro e w3 ⟨v3, rfl, o3, b3⟩
    obtain ⟨a3, c3, e3, s3, _⟩ := Owns.seen o3
    rw [ints_length, L1.out] at e3
    subst e3
    have S3 := hide s3
    have S2' := hide (Seen.below S2.out b3)
    have B3 := hide (bnext B2.out b3 (Nat.le_refl _))
    have KQ := hide (KN.out w3 B3.out)
    clear o3 s3 b3 KK KN S2 B2
    go_wp2_with fail
    refine KQ.out.mono ?_
    rintro e w' ⟨rfl, hw⟩
    obtain rfl : w3 = w' := hw.symm
    have KW := hide (KM.out a2 a3 c2 c3 w3 S2'.out S3.out)
    clear KQ KM S2' S3
    go_wp2_with fail
    refine KW.out.mono ?_
    rintro e w4 ⟨rfl, b4⟩
    obtain ⟨w5, hw5⟩ : ∃ w5, w5 = w4.alloc (.cells (slotC mt) 113) := ⟨_, rfl⟩
    have Y5 : SlotAt w5 w4.heap.size mt := by rw [hw5]; exact Cells.new w4 (slotC mt) 113
    have b5 : Below w4.heap.size w4 w5 := by rw [hw5]; exact alloc_below _ _
    have bb := bnext (bnext B3.out b4 (Nat.le_refl _)) b5 (Nat.le_refl _)
    have R5 := hide (R1H.out.below bb)
    have B5 := hide (bnext B1.out bb (Nat.le_refl _))
    have HW5 := hide hw5
    unfold slotC at HW5
    have y0 := Y5.at0
    have y1 := Y5.at1
    have y2 := Y5.at2
    have y3 := Y5.at3
    have y4 := Y5.at4
    have q0 := R5.out.at0
    have q1 := R5.out.at1
    have q2 := R5.out.at2
    have q3 := R5.out.at3
    have q4 := R5.out.at4
    have r0 := R5.out.fr 0 (by omega)
    have r1 := R5.out.fr 1 (by omega)
    have r2 := R5.out.fr 2 (by omega)
    have r3 := R5.out.fr 3 (by omega)
    have r4 := R5.out.fr 4 (by omega)
    simp only [Slot.none] at q0 q1 q2 q3 q4
    clear hw5 b4 b5 bb KW B3 R1H Y5
    go_upto_region 8 with fail
    rw [← HW5.out]
    clear HW5
    cases mb with
    | true =>
      obtain ⟨m1, m2⟩ := MM.out.1 rfl
      have FA := hide (show Ending.returned (.tuple #[.agg (slotC rt), .int .i64 ((rb : Nat) : Int)]) = Ending.returned (.tuple #[.agg (slotC mt), .int .i64 0]) by rw [HRT.out, HRB.out, if_neg (fun q => m1 ((Dev.master_zero_iff g).1 q)), m2]; rfl)
      obtain ⟨w6, hw6⟩ : ∃ w6, w6 = put5 w5 w.heap.size mt := ⟨_, rfl⟩
      have E6 := hide (show SlotAt w6 w.heap.size mt by rw [hw6]; exact R5.out.put5 mt)
      have B6 := hide (show Below w.heap.size w w6 by rw [hw6]; exact B5.out.trans ((put5_keep w5 w.heap.size mt).below B5.out.size (fun k hk => by omega)))
      unfold put5 at hw6
      have HW6 := hide hw6
      clear hw6 m1 m2 MM
      go_wp2_with fail
      rw [← HW6.out]
      have j0 := E6.out.at0
      have j1 := E6.out.at1
      have j2 := E6.out.at2
      have j3 := E6.out.at3
      have j4 := E6.out.at4
      exact bodyPost_ret (v := .tuple #[.agg (slotC mt), .int .i64 0]) (by simp [results, Tryz.results76, go_sem, j0, j1, j2, j3, j4, slotC]) rfl ⟨FA.out.symm, B6.out⟩
    | false =>
      have m1 := MM.out.2 rfl
      have FA := hide (show Ending.returned (.tuple #[.agg (slotC rt), .int .i64 ((rb : Nat) : Int)]) = Ending.returned (.tuple #[.agg (slotC Slot.none), .int .i64 50]) by rw [HRT.out, HRB.out, if_pos ((Dev.master_zero_iff g).2 m1), m1]; rfl)
      obtain ⟨w6, hw6⟩ : ∃ w6, w6 = put0 w5 w.heap.size := ⟨_, rfl⟩
      have E6 := hide (show SlotAt w6 w.heap.size Slot.none by rw [hw6]; exact R5.out.put5 Slot.none)
      have B6 := hide (show Below w.heap.size w w6 by rw [hw6]; exact B5.out.trans ((put5_keep w5 w.heap.size Slot.none).below B5.out.size (fun k hk => by omega)))
      unfold put0 at hw6
      have HW6 := hide hw6
      clear hw6 m1 MM
      go_wp2_with fail
      rw [← HW6.out]
      have j0 := E6.out.at0
      have j1 := E6.out.at1
      have j2 := E6.out.at2
      have j3 := E6.out.at3
      have j4 := E6.out.at4
      exact bodyPost_ret (v := .tuple #[.agg (slotC Slot.none), .int .i64 50]) (by simp [results, Tryz.results76, go_sem, j0, j1, j2, j3, j4, slotC]) rfl ⟨FA.out.symm, B6.out⟩

set_option maxHeartbeats 1000000 in
set_option maxRecDepth 100000 in
theorem written_any {w : World} {S : Nat → Prop} {d : Nat} {g : Dev} (h : RDev w S d g) (i : Int) (a : Option Addr) (b : List Nat) (c : Nat) (hs : Bytes w a b) (hl : b.length = 512) (hc : 512 ≤ c) (ha : a = none → c = 0) (hb : AllB b) (hpl : g.pend.length ≤ 999999) (hcl : g.calls ≤ 999999) :
    Calls Tryz.prog 75 #[.pointer (some ⟨d, 0, none⟩), .int .i64 i, .slice a 512 c] w fun e w' => ∃ S', e = .returned (.int .i64 ((g.putE i b : Nat) : Int)) ∧ RDev w' S' d (g.putD i b) ∧ Step w S w' S' := by
  have K := rWrite_any h i a b c hs (by omega) ha hb (by omega) hpl (by omega)
  have ln := @Dev.write_len g i b
  unfold Dev.putE Dev.putD
  rw [hl] at K ⊢
  have K := hide K
  have LN := hide ln
  clear ln h hl hb hs ha hc
  by_cases q : g.writeE i 512 = 0
  · rw [if_neg (not_not_intro q), if_neg (not_not_intro q)]
    rw [q] at K
    go_enter Tryz.func75, Tryz.ntmps75
    go_wp2_with fail
    refine K.out.mono ?_
    rintro e w2 ⟨S2, rfl, P2, st2⟩
    have KS := hide (rSync_any P2 (by have := LN.out; omega) (by have := LN.out; omega))
    have ST := hide st2
    clear K P2 st2
    go_wp2_with fail
    refine KS.out.mono ?_
    rintro e w3 ⟨rfl, P3, k3⟩
    go_wp2_with fail
    go_ret
    exact ⟨S2, rfl, P3, ST.out.trans (Step.of_keep k3)⟩
  · rw [if_pos q, if_pos q]
    have q' : (((g.writeE i 512 : Nat) : Int) == 0) = false := by simpa using q
    have q2 : (((g.writeE i 512 : Nat) : Int) != 0) = true := by simpa using q
    generalize g.writeE i 512 = ee at *
    clear q
    go_enter Tryz.func75, Tryz.ntmps75
    go_wp2_with fail
    refine K.out.mono ?_
    rintro e w2 ⟨S2, rfl, P2, st2⟩
    have ST := hide st2
    have HP2 := hide P2
    clear K P2 st2
    go_wp2_with fail
    go_ret
    exact ⟨S2, rfl, HP2.out, ST.out⟩
end Go.Proofs.YtapjbgkmcplpbaaGreat
