import Derived.Test.YtpddmimacjknfaaTw5
namespace Go.Proofs.Ytpddmimacjknfaa
open Go.RowKit Go.QK
set_option maxRecDepth 100000

theorem segs_step {s : List (Nat × List Nat)} {ss : List (List (Nat × List Nat))} {g : Dev} (h : putsE s g = 0) : segsE (s :: ss) g = segsE ss (putsD s g) ∧ segsD (s :: ss) g = segsD ss (putsD s g) := by
  constructor
  · show (if putsE s g ≠ 0 then _ else _) = _
    rw [if_neg (by omega)]
  · show (if putsE s g ≠ 0 then _ else _) = _
    rw [if_neg (by omega)]
theorem segs_stop {s : List (Nat × List Nat)} {ss : List (List (Nat × List Nat))} {g : Dev} (h : putsE s g ≠ 0) : segsE (s :: ss) g = putsE s g ∧ segsD (s :: ss) g = putsD s g := by
  constructor
  · show (if putsE s g ≠ 0 then _ else _) = _
    rw [if_pos h]
  · show (if putsE s g ≠ 0 then _ else _) = _
    rw [if_pos h]
def WrPost (w : World) (S : Nat → Prop) (d : Nat) (E : Nat) (D : Dev) (e : Ending) (w' : World) : Prop :=
  ∃ S' v, e = .returned v ∧ Told w' w.heap.size v writeS E ∧ PDev w' S' d D ∧ Step w S w' S'
section
variable {w w1 wi : World} {S Si : Nat → Prop} {d : Nat} {g' : Dev}
/-- How a call stands that has a variable of its own at block w.heap.size. -/
structure Mid (w w1 wi : World) (S Si : Nat → Prop) (d n : Nat) (g' : Dev) : Prop where
  bel : Below w.heap.size w w1
  siz : w1.heap.size = w.heap.size + n
  dev : PDev wi Si d g'
  lts : ∀ b, S b → b < w.heap.size
  st : Step w1 S wi Si
theorem Mid.next {wj : World} {Sj : Nat → Prop} {gj : Dev} {n : Nat} (h : Mid w w1 wi S Si d n g') (hp : PDev wj Sj d gj) (hs : Step wi Si wj Sj) : Mid w w1 wj S Sj d n gj := ⟨h.bel, h.siz, hp, h.lts, h.st.trans hs⟩
theorem Mid.below {wj : World} {n : Nat} (h : Mid w w1 wi S Si d n g') (hb : Below wi.heap.size wi wj) : Mid w w1 wj S Si d n g' := ⟨h.bel, h.siz, h.dev.below hb, h.lts, h.st.trans (Step.of_below hb)⟩
theorem Mid.out {n k : Nat} (h : Mid w w1 wi S Si d n g') (h1 : w.heap.size ≤ k) (h2 : k < w.heap.size + n) : ¬ S k ∧ ¬ Si k := by
  have q : ¬ S k := fun q => by have := h.lts k q; omega
  refine ⟨q, fun r => ?_⟩
  rcases h.st.2 k r with x | x
  · exact q x
  · have := h.siz; omega
theorem Mid.cells {n k : Nat} {cs : List Value} (h : Mid w w1 wi S Si d n g') (hc : Cells w1 k cs) (h1 : w.heap.size ≤ k) (h2 : k < w.heap.size + n) : Cells wi k cs := hc.keep h.st.1 (h.out h1 h2).1
theorem Mid.fin {n : Nat} {w' : World} {T : Nat → Prop} (h : Mid w w1 wi S Si d n g') (hk : Keep T wi w') (hT : ∀ k, T k → w.heap.size ≤ k ∧ k < w.heap.size + n) : PDev w' Si d g' ∧ Step w S w' Si := by
  refine ⟨h.dev.keep hk (fun b hb => (h.out (hT b hb).1 (hT b hb).2).2), ?_, fun k q => ?_⟩
  · exact ((Keep.of_below (S := S) h.bel).trans h.st.1 (fun _ _ q => q)).trans hk (fun j hj q => by have := hT j q; omega)
  · rcases h.st.2 k q with x | x
    · exact .inl x
    · right; have := h.siz; omega
end
/-- The same, with a page's bytes beside the disk. -/
structure Pgs (w w1 wi : World) (S Si : Nat → Prop) (d : Nat) (g' : Dev) (ka ko : Nat) (b : List Nat) : Prop where
  mid : Mid w w1 wi S Si d 1 g'
  byt : Bytes wi (some ⟨ka, ko, none⟩) b
  no : ¬ Si ka
  lt : ka < wi.heap.size
theorem Pgs.next {w w1 wi wj : World} {S Si Sj : Nat → Prop} {d ka ko : Nat} {g' gj : Dev} {b : List Nat} (h : Pgs w w1 wi S Si d g' ka ko b) (hp : PDev wj Sj d gj) (hs : Step wi Si wj Sj) : Pgs w w1 wj S Sj d gj ka ko b := by
  refine ⟨h.mid.next hp hs, h.byt.keep hs.1 (fun ad e => by cases e; exact h.no), fun q => ?_, Nat.lt_of_lt_of_le h.lt hs.1.size⟩
  rcases hs.2 ka q with x | x
  · exact h.no x
  · have := h.lt; omega
theorem Pgs.below {w w1 wi wj : World} {S Si : Nat → Prop} {d ka ko : Nat} {g' : Dev} {b : List Nat} (h : Pgs w w1 wi S Si d g' ka ko b) (hb : Below wi.heap.size wi wj) : Pgs w w1 wj S Si d g' ka ko b := h.next (h.mid.dev.below hb) (Step.of_below hb)
set_option maxHeartbeats 8000000 in
theorem write_twin {w : World} {S : Nat → Prop} {d : Nat} {g : Dev} (h : PDev w S d g) (at_ hm : Int) (a : Option Addr) (b : List Nat) (c : Nat) (hs : Bytes w a b) (hS : ∀ ad, a = some ad → ¬ S ad.block) (hbc : b.length ≤ c) (hb : AllB b) (hpl : g.pend.length ≤ 900000) (hcl : g.calls ≤ 900000) :
    Calls Try.prog 11 #[.pointer (some ⟨d, 0, none⟩), .int .i64 at_, .int .i64 hm, .slice a b.length c] w (WrPost w S d (g.twE at_ hm b) (g.twD at_ hm b)) := by
  obtain ⟨w1, hw1⟩ : ∃ w1, w1 = w.alloc (.cells #[.nilIface] 32) := ⟨_, rfl⟩
  have b1 : Below w.heap.size w w1 := by rw [hw1]; exact alloc_below _ _
  have z1 : w1.heap.size = w.heap.size + 1 := by rw [hw1]; simp
  have c1 : Cells w1 w.heap.size [.nilIface] := by rw [hw1]; exact Cells.new w #[.nilIface] 32
  have M1 : Mid w w1 w1 S S d 1 g := ⟨b1, z1, h.below b1, h.lt, Step.refl _ _⟩
  have HW := hide hw1
  have HM1 := hide M1
  have HC1 := hide c1
  have P1 := h.below b1
  have hn := (n_le h).2
  obtain ⟨E, hE⟩ : ∃ E, E = g.twE at_ hm b := ⟨_, rfl⟩
  obtain ⟨D, hD⟩ : ∃ D, D = g.twD at_ hm b := ⟨_, rfl⟩
  rw [← hE, ← hD]
  have GU := hide (fun e w => giveUp_any e w)
  have DOOR : Hid (∀ (t : Array Value) (wi : World) (Si : Nat → Prop) (e : Nat) (g' : Dev), t.getD 8 undef = .pointer (some ⟨w.heap.size, 0, none⟩) → Mid w w1 wi S Si d 1 g' → E = e → e ≠ 0 → D = g' → bodyPostD Try.prog Try.f11 (WrPost w S d E D) (Exit.panic (pan e)) { tmps := t, defers := dfW w.heap.size } wi) := by
    intro t wi Si e g' ht hM he h0 hDg
    refine wr_door t wi w.heap.size e .nilIface ht (hM.cells c1 (Nat.le_refl _) (by omega)) ?_
    intro v w' hv hk
    obtain ⟨f1, f2⟩ := hM.fin hk (fun k q => by subst q; omega)
    have hsz := hM.st.1.size
    exact ⟨Si, v, rfl, .inr ⟨by rw [he]; exact h0, by rw [he]; exact hv.mono (by omega)⟩, by rw [hDg]; exact f1, f2⟩
  unfold Dev.twE at hE
  unfold Dev.twD at hD
  by_cases hd : g.down = true
  · rw [if_pos hd] at hE hD
    have KR := hide (run_down P1 hd)
    have HE := hide hE
    have HD := hide hD
    clear hE hD hs P1 h b1 M1 c1 hw1 hd
    go_enter_defers Try.func11, Try.ntmps11
    go_upto_region 2 with fail
    rw [← HW.out]
    go_wp2_with fail
    refine KR.out.mono ?_
    rintro e w2 ⟨rfl, rfl⟩
    exact DOOR.out _ _ S 40 g rfl HM1.out HE.out (by decide) HD.out
  have hd : g.down = false := by simpa using hd
  rw [if_neg (by rw [hd]; simp)] at hE hD
  have KR := hide (run_ok P1 hd)
  have KT := mayTwin_any P1 at_
  by_cases ht : g.has at_ 3 = true
  rotate_left
  · have ht : g.has at_ 3 = false := by simpa using ht
    rw [ht, Bool.false_and, if_pos rfl] at hE hD
    rw [ht] at KT
    have HE := hide hE
    have HD := hide hD
    clear hE hD hs P1 h b1 M1 c1 hw1 hd ht
    go_enter_defers Try.func11, Try.ntmps11
    go_upto_region 2 with fail
    rw [← HW.out]
    go_wp2_with fail
    refine KR.out.mono ?_
    rintro e w2 ⟨rfl, rfl⟩
    go_wp2_with fail
    refine KT.mono ?_
    rintro e w2 ⟨rfl, rfl⟩
    go_wp2_with fail
    refine (GU.out 4 w2).mono ?_
    rintro e w2 ⟨rfl, rfl⟩
    exact DOOR.out _ _ S 4 g rfl HM1.out HE.out (by decide) HD.out
  obtain ⟨a1, a2, a3⟩ := has_num h ht
  have KH := mayHome_any P1 at_ hm ht
  rw [ht] at KT
  rw [ht, Bool.true_and] at hE hD
  by_cases hh : g.homeB at_ hm = true
  rotate_left
  · have hh : g.homeB at_ hm = false := by simpa using hh
    rw [hh, if_pos rfl] at hE hD
    rw [hh] at KH
    have HE := hide hE
    have HD := hide hD
    clear hE hD hs P1 h b1 M1 c1 hw1 hd ht a1 a2 a3 hh
    go_enter_defers Try.func11, Try.ntmps11
    go_upto_region 2 with fail
    rw [← HW.out]
    go_wp2_with fail
    refine KR.out.mono ?_
    rintro e w2 ⟨rfl, rfl⟩
    go_wp2_with fail
    refine KT.mono ?_
    rintro e w2 ⟨rfl, rfl⟩
    go_wp2_with fail
    refine KH.mono ?_
    rintro e w2 ⟨rfl, rfl⟩
    go_wp2_with fail
    refine (GU.out 4 w2).mono ?_
    rintro e w2 ⟨rfl, rfl⟩
    exact DOOR.out _ _ S 4 g rfl HM1.out HE.out (by decide) HD.out
  rw [hh, if_neg (by simp)] at hE hD
  have hh2 : g.has hm 2 = true := by
    unfold Dev.homeB at hh
    cases q : g.has hm 2
    · rw [q] at hh; simp at hh
    · rfl
  obtain ⟨m1, m2, m3⟩ := has_num h hh2
  rw [hh] at KH
  by_cases hl : b.length = 1024
  rotate_left
  · rw [if_pos hl] at hE hD
    have HE := hide hE
    have HD := hide hD
    generalize b.length = nb at *
    have hq : ((nb : Int) == 1024) = false := by simp; omega
    have hq2 : ((nb : Int) != 1024) = true := by simp; omega
    clear hE hD hs P1 h b1 M1 c1 hw1 hd ht a1 a2 a3 hh hh2 m1 m2 m3 hl hbc
    go_enter_defers Try.func11, Try.ntmps11
    go_upto_region 2 with fail
    rw [← HW.out]
    go_wp2_with fail
    refine KR.out.mono ?_
    rintro e w2 ⟨rfl, rfl⟩
    go_wp2_with fail
    refine KT.mono ?_
    rintro e w2 ⟨rfl, rfl⟩
    go_wp2_with fail
    refine KH.mono ?_
    rintro e w2 ⟨rfl, rfl⟩
    go_wp2_with fail
    refine (GU.out 42 w2).mono ?_
    rintro e w2 ⟨rfl, rfl⟩
    exact DOOR.out _ _ S 42 g rfl HM1.out HE.out (by decide) HD.out
  rw [if_neg (by omega)] at hE hD
  obtain ⟨A, rfl⟩ : ∃ A : Nat, at_ = (A : Int) := ⟨at_.toNat, by omega⟩
  obtain ⟨H, rfl⟩ : ∃ H : Nat, hm = (H : Int) := ⟨hm.toNat, by omega⟩
  rw [Int.toNat_natCast, Int.toNat_natCast] at hE hD
  unfold twSegs at hE hD
  obtain ⟨ka, ko, rfl, hka, -⟩ := hs.at (i := 0) (by omega)
  have hkS : ¬ S ka := hS _ rfl
  have hs1 := hs.below b1
  have hka1 : ka < w1.heap.size := by omega
  have K1 := layPage_any P1 (A + 1) ka ko c b hs1 hkS hl (by omega) hb (by omega) (by omega) (by omega)
  have pl1 := puts_len [(A + 1, b.take 512), (A + 2, b.drop 512)] g
  have ST1 := @segs_step [(A + 1, b.take 512), (A + 2, b.drop 512)] [[(A, mkB H 165)], [(H, b.take 512), (H + 1, b.drop 512)], [(A, mkB H 0)]] g
  have SP1 := @segs_stop [(A + 1, b.take 512), (A + 2, b.drop 512)] [[(A, mkB H 165)], [(H, b.take 512), (H + 1, b.drop 512)], [(A, mkB H 0)]] g
  rw [← hE, ← hD] at ST1 SP1
  have LP3 := fun {wi : World} {Si : Nat → Prop} {gi : Dev} (q : PDev wi Si d gi) (hk : ¬ Si ka) (hbb : Bytes wi (some ⟨ka, ko, none⟩) b) (q1 : gi.pend.length ≤ 999990) (q2 : gi.calls ≤ 999990) => layPage_any q H ka ko c b hbb hk hl (by omega) hb (by omega) q1 q2
  have MK := fun st w => markerOf_any H st w
  have LM := fun {wi : World} {Si : Nat → Prop} {gi : Dev} (st : Nat) (hst : st < 256) (q : PDev wi Si d gi) (q1 : gi.pend.length ≤ 999998) (q2 : gi.calls ≤ 999998) => layMarker_any q A (mkB H st) (mkB_length _ _) (mkB_allB _ _ hst) q1 q2
  have S2 := fun (gx : Dev) => @segs_step [(A, mkB H 165)] [[(H, b.take 512), (H + 1, b.drop 512)], [(A, mkB H 0)]] gx
  have T2 := fun (gx : Dev) => @segs_stop [(A, mkB H 165)] [[(H, b.take 512), (H + 1, b.drop 512)], [(A, mkB H 0)]] gx
  have S3 := fun (gx : Dev) => @segs_step [(H, b.take 512), (H + 1, b.drop 512)] [[(A, mkB H 0)]] gx
  have T3 := fun (gx : Dev) => @segs_stop [(H, b.take 512), (H + 1, b.drop 512)] [[(A, mkB H 0)]] gx
  have S4 := fun (gx : Dev) => @segs_step [(A, mkB H 0)] [] gx
  have T4 := fun (gx : Dev) => @segs_stop [(A, mkB H 0)] [] gx
  have pl2 := puts_len [(A, mkB H 165)]
  have pl3 := puts_len [(H, b.take 512), (H + 1, b.drop 512)]
  obtain ⟨s1, hs1'⟩ : ∃ s : List (Nat × List Nat), s = [(A + 1, b.take 512), (A + 2, b.drop 512)] := ⟨_, rfl⟩
  obtain ⟨s2, hs2'⟩ : ∃ s : List (Nat × List Nat), s = [(A, mkB H 165)] := ⟨_, rfl⟩
  obtain ⟨s3, hs3'⟩ : ∃ s : List (Nat × List Nat), s = [(H, b.take 512), (H + 1, b.drop 512)] := ⟨_, rfl⟩
  obtain ⟨s4, hs4'⟩ : ∃ s : List (Nat × List Nat), s = [(A, mkB H 0)] := ⟨_, rfl⟩
  have K1 : Calls Try.prog 32 #[.pointer (some ⟨d, 0, none⟩), .int .i64 ((A : Int) + 1), .slice (some ⟨ka, ko, none⟩) 1024 c] w1 fun e w' => ∃ S', e = fin (putsE s1 g) ∧ PDev w' S' d (putsD s1 g) ∧ Step w1 S w' S' := by
    rw [hs1']
    rw [show ((A + 1 : Nat) : Int) = (A : Int) + 1 by simp] at K1
    exact K1
  have LM2 := fun {wi : World} {Si : Nat → Prop} {gi : Dev} (q : PDev wi Si d gi) => LM 165 (by decide) q
  have LM4 := fun {wi : World} {Si : Nat → Prop} {gi : Dev} (q : PDev wi Si d gi) => LM 0 (by decide) q
  simp only [← hs1', ← hs2', ← hs3', ← hs4'] at ST1 SP1 LP3 LM2 LM4 S2 T2 S3 T3 S4 T4 pl1 pl2 pl3
  have q2 : s2.length = 1 := by rw [hs2']; rfl
  have q1 : s1.length = 2 := by rw [hs1']; rfl
  have q3 : s3.length = 2 := by rw [hs3']; rfl
  rw [q1] at pl1
  rw [q2] at pl2
  rw [q3] at pl3
  have G1 : Pgs w w1 w1 S S d g ka ko b := ⟨M1, hs1, hkS, hka1⟩
  have HG1 := hide G1
  have HST1 := hide ST1
  have HSP1 := hide SP1
  have HS2 := hide S2
  have HT2 := hide T2
  have HS3 := hide S3
  have HT3 := hide T3
  have HS4 := hide S4
  have HT4 := hide T4
  have HPL1 := hide pl1
  have HPL2 := hide pl2
  have HPL3 := hide pl3
  have hA : (A : Int) ≤ 8192 := a3
  rw [hl]
  clear LM hs1' hs2' hs3' hs4' hE hD hs hs1 P1 h b1 M1 c1 hw1 hd ht hh hh2 hl hbc hb hS G1 ST1 SP1 S2 T2 S3 T3 S4 T4 pl1 pl2 pl3 q1 q2 q3 hka hka1 hkS a1 a2 a3 m1 m2 m3
  go_enter_defers Try.func11, Try.ntmps11
  go_upto_region 2 with fail
  rw [← HW.out]
  go_wp2_with fail
  refine KR.out.mono ?_
  rintro e w2 ⟨rfl, rfl⟩
  go_wp2_with fail
  refine KT.mono ?_
  rintro e w2 ⟨rfl, rfl⟩
  go_wp2_with fail
  refine KH.mono ?_
  rintro e w2 ⟨rfl, rfl⟩
  clear KR KT KH
  go_wp2_with fail
  refine K1.mono ?_
  rintro e w3 ⟨S3, he, p3, t3⟩
  have G3 := HG1.out.next p3 t3
  by_cases h1 : putsE s1 g = 0
  rotate_left
  · rw [fin_no h1] at he
    subst he
    exact DOOR.out _ _ S3 _ _ rfl G3.mid (HSP1.out h1).1 h1 (HSP1.out h1).2
  rw [h1, fin_zero] at he
  subst he
  have E3 := hide (HST1.out h1)
  have L3 := hide HPL1.out
  generalize putsD s1 g = g1 at *
  have HG3 := hide G3
  clear h1 HST1 HSP1 HPL1 p3 t3 G3 K1 HG1
  go_wp2_with fail
  refine (MK 165 w3).mono ?_
  rintro e w4 ⟨rfl, b4⟩
  have G4 := HG3.out.below b4
  have K4 := LM2 G4.mid.dev (by have := L3.out.1; omega) (by have := L3.out.2; omega)
  have HG4 := hide G4
  clear G4 b4 HG3
  go_wp2_with fail
  refine K4.mono ?_
  rintro e w5 ⟨S5, he, p5, t5⟩
  have G5 := HG4.out.next p5 t5
  by_cases h2 : putsE s2 g1 = 0
  rotate_left
  · rw [fin_no h2] at he
    subst he
    exact DOOR.out _ _ S5 _ _ rfl G5.mid (E3.out.1.trans (HT2.out g1 h2).1) h2 (E3.out.2.trans (HT2.out g1 h2).2)
  rw [h2, fin_zero] at he
  subst he
  have E5 := hide (show E = _ ∧ D = _ from ⟨E3.out.1.trans (HS2.out g1 h2).1, E3.out.2.trans (HS2.out g1 h2).2⟩)
  have L5 := hide (HPL2.out g1)
  generalize putsD s2 g1 = g2 at *
  have HG5 := hide G5
  have K5 := LP3 G5.mid.dev G5.no G5.byt (by have := L3.out.1; have := L5.out.1; omega) (by have := L3.out.2; have := L5.out.2; omega)
  clear h2 HS2 HT2 HPL2 p5 t5 G5 K4 HG4 E3
  go_wp2_with fail
  refine K5.mono ?_
  rintro e w6 ⟨S6, he, p6, t6⟩
  have G6 := HG5.out.next p6 t6
  by_cases h3 : putsE s3 g2 = 0
  rotate_left
  · rw [fin_no h3] at he
    subst he
    exact DOOR.out _ _ S6 _ _ rfl G6.mid (E5.out.1.trans (HT3.out g2 h3).1) h3 (E5.out.2.trans (HT3.out g2 h3).2)
  rw [h3, fin_zero] at he
  subst he
  have E6 := hide (show E = _ ∧ D = _ from ⟨E5.out.1.trans (HS3.out g2 h3).1, E5.out.2.trans (HS3.out g2 h3).2⟩)
  have L6 := hide (HPL3.out g2)
  generalize putsD s3 g2 = g3 at *
  have HG6 := hide G6
  clear h3 HS3 HT3 HPL3 p6 t6 G6 K5 HG5 E5
  go_wp2_with fail
  refine (MK 0 w6).mono ?_
  rintro e w7 ⟨rfl, b7⟩
  have G7 := HG6.out.below b7
  have K7 := LM4 G7.mid.dev (by have := L3.out.1; have := L5.out.1; have := L6.out.1; omega) (by have := L3.out.2; have := L5.out.2; have := L6.out.2; omega)
  have HG7 := hide G7
  clear G7 b7 HG6
  go_wp2_with fail
  refine K7.mono ?_
  rintro e w8 ⟨S8, he, p8, t8⟩
  have G8 := HG7.out.next p8 t8
  by_cases h4 : putsE s4 g3 = 0
  rotate_left
  · rw [fin_no h4] at he
    subst he
    exact DOOR.out _ _ S8 _ _ rfl G8.mid (E6.out.1.trans (HT4.out g3 h4).1) h4 (E6.out.2.trans (HT4.out g3 h4).2)
  rw [h4, fin_zero] at he
  subst he
  have E8 := hide (show E = _ ∧ D = _ from ⟨E6.out.1.trans (HS4.out g3 h4).1, E6.out.2.trans (HS4.out g3 h4).2⟩)
  have C8 := G8.mid.cells HC1.out (Nat.le_refl _) (by omega)
  obtain ⟨k8, f8⟩ := C8.get 0 _ rfl
  have k9 : Keep (fun b => b = w.heap.size) w8 (w8.setCell ⟨w.heap.size, 0, none⟩ .nilIface) := (Keep.refl (fun b => b = w.heap.size) w8).setCell (fun _ => rfl) _
  have F8 := hide (G8.mid.fin k9 (fun k q => by subst q; omega))
  have HC8 := hide C8
  clear h4 HS4 HT4 p8 t8 G8 K7 HG7 E6 C8 k9
  go_wp2_with fail
  refine wr_done _ _ w.heap.size _ rfl (HC8.out.stored (j := 0) (by simp) _) ?_
  exact ⟨S8, _, rfl, .inl ⟨by rw [E8.out.1]; rfl, rfl⟩, by rw [E8.out.2]; exact F8.out.1, F8.out.2⟩
end Go.Proofs.Ytpddmimacjknfaa
