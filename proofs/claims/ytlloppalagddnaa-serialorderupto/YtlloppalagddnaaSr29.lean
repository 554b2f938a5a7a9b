import Derived.Test.YtlloppalagddnaaSr28
set_option linter.all false
namespace Go.Proofs.Ytlloppalagddnaa
open Go.RowKit Go.QK Quota Go.Maps Go.QM Go.QS
set_option maxRecDepth 100000
theorem vaL_len (l : List Cn) (hok : ∀ x ∈ l, x.Ok) (R : List (List Hn)) : (vaL l R).length ≤ 1048576 := by
  unfold vaL
  split
  · rename_i q
    unfold vaErr at q
    split at q
    · rename_i q2
      have := CsOk.len (CsOk.sta CsOk.nil hok q2)
      unfold vaC addC cnL
      simpa using this
    · rename_i q2
      exact absurd q q2
  · simp
set_option maxHeartbeats 16000000 in
theorem law_order (a : Option Addr) (cap : Nat) (l : List Cn) (ra : Option Addr) (rcap : Nat) (rs : List RI) (ta : Option Addr) (tcap : Nat) (ts : List Int) (w : World)
    (hl : Lies w a (cns l)) (hna : a = none → cap = 0 ∧ l.length = 0) (hok : ∀ x ∈ l, x.Ok) (hln : l.length ≤ 1048576)
    (hr : RunsI w ra rs) (hra : ra = none → rcap = 0 ∧ rs.length = 0) (hrc : rs.length ≤ rcap) (hrl : rs.length ≤ 1048576) (hnil : ∀ r ∈ rs, r.a = none → r.c = 0 ∧ r.l.length = 0) (hall : (netsOf rs).flatten.length ≤ 1048576)
    (ht : Lies w ta (ts.map (Value.int .i64))) (htl : ts.length ≤ 1000000000000000) (hti : ∀ t ∈ ts, I64 t) :
    Calls Try.prog 4 #[.slice a l.length cap, .slice ra rs.length rcap, .slice ta ts.length tcap] w fun e w' => e = .returned (.bool true) ∧ Below w.heap.size w w' := by
  have HL := hide hl
  have HNA := hide hna
  have HOK := hide hok
  have HRS := hide (RunsOk.take hr hnil hall)
  have HRA := hide (show ra = none → rcap = 0 ∧ (rs.take 200).length = 0 from fun q => ⟨(hra q).1, by have := (hra q).2; rw [List.length_take]; omega⟩)
  have HT := hide ht
  have HTI := hide hti
  have H200 := hide (fun wq (q : 200 < rs.length) => slice200 (n := rs.length) wq q hrc hra)
  obtain ⟨rs2, hrs2⟩ : ∃ x, x = rs.take 200 := ⟨_, rfl⟩
  have HN2 := hide (show rs2.length = if 200 < rs.length then 200 else rs.length by rw [hrs2, List.length_take]; split <;> omega)
  rw [← hrs2] at HRS HRA
  clear hl hna hok hr hra hnil hall ht hti hrs2
  go_enter Try.func4, Try.ntmps4
  go_wp2_with fail
  refine (first_any w).mono ?_
  rintro e w1 ⟨rfl, b1⟩
  have B1 := hide b1
  clear b1
  go_upto_if 22 with fail
  go_cut [1] from 20 (fun x w' => x = .slice ra rs2.length rcap ∧ w' = w1)
  case first =>
    by_cases q : 200 < rs.length
    · have s1 := fun wq => H200.out wq q
      have e1 : rs2.length = 200 := by rw [HN2.out, if_pos q]
      go_wp2_with fail
      go_meet
      exact ⟨by rw [e1], rfl⟩
    · have e1 : rs2.length = rs.length := by rw [HN2.out, if_neg q]
      go_wp2_with fail
      go_meet
      exact ⟨by rw [e1], rfl⟩
  case rest =>
    obtain ⟨rfl, rfl⟩ := hcut
    clear H200 HN2
    go_wp2_with fail
    refine (turned_ok ra rcap rs2 ta tcap ts wc (HRS.out.below B1.out) HRA.out (HT.out.below B1.out) htl HTI.out).mono ?_
    rintro e w2 ⟨oa, oc, os, rfl, hos, hperm, b2⟩
    have B2 := hide (B1.out.trans (b2.mono B1.out.size))
    have HOS := hide hos
    have HP := hide hperm
    clear b2 hos hperm HT HTI B1
    go_wp2_with fail
    refine (lentC_ok a cap l w2 (HL.out.below B2.out) HNA.out hln).mono ?_
    rintro e x1 ⟨gc1, cc1, rfl, hc, b3⟩
    have BX1 := hide (B2.out.trans (b3.mono B2.out.size))
    have C1 := hide hc
    have RO1 := hide ((HRS.out.below B2.out).below b3)
    have Y1 := hide b3
    clear b3 hc
    go_wp2_with fail
    refine (lent_ok rcap RO1.out).mono ?_
    rintro e y1 ⟨gr1, cr1, rl1, rfl, en1, el1, hr, b3⟩
    have BY1 := hide (BX1.out.trans (b3.mono BX1.out.size))
    have Z1 := hide (Y1.out.trans (b3.mono Y1.out.size))
    have D1 := hide (C1.out.below b3)
    have R1 := hide hr
    have EN1 := hide en1
    have hll1 : rl1.length ≤ 200 := by rw [el1]; exact RO1.out.len
    have hfl1 : (netsOf rl1).flatten.length ≤ 1048576 := by rw [en1]; exact RO1.out.all
    have HM1 := hide (fun (r : RI) (hr : r ∈ rl1) => Nat.le_trans (flat_mem (List.mem_map.2 ⟨r, hr, rfl⟩ : r.l ∈ netsOf rl1)) hfl1)
    clear b3 hr en1 el1 RO1 BX1 C1 Y1
    go_wp2_with fail
    refine (va_any (some ⟨gc1, 0, none⟩) cc1 l (some ⟨gr1, 0, none⟩) cr1 rl1 y1 D1.out HOK.out (by omega) R1.out (by omega) (by omega)).mono ?_
    rintro e z1 ⟨⟨v1, rfl, hv⟩, b3⟩
    rw [EN1.out] at hv ⊢
    have BB1 := hide (BY1.out.trans (b3.mono BY1.out.size))
    have ZZ1 := hide (Z1.out.trans (b3.mono Z1.out.size))
    have V1 := hide hv
    have O1 := hide (HOS.out.below ZZ1.out)
    clear hv b3 BY1 Z1 D1 R1 HOS B2 ZZ1
    go_wp2_with fail
    refine (lentC_ok a cap l z1 (HL.out.below BB1.out) HNA.out hln).mono ?_
    rintro e x2 ⟨gc2, cc2, rfl, hc, b3⟩
    have BX2 := hide (BB1.out.trans (b3.mono BB1.out.size))
    have C2 := hide hc
    have RO2 := hide ((O1.out).below b3)
    have Y2 := hide b3
    clear b3 hc
    go_wp2_with fail
    refine (lent_ok oc RO2.out).mono ?_
    rintro e y2 ⟨gr2, cr2, rl2, rfl, en2, el2, hr, b3⟩
    have BY2 := hide (BX2.out.trans (b3.mono BX2.out.size))
    have Z2 := hide (Y2.out.trans (b3.mono Y2.out.size))
    have D2 := hide (C2.out.below b3)
    have R2 := hide hr
    have EN2 := hide en2
    have hll2 : rl2.length ≤ 200 := by rw [el2]; exact RO2.out.len
    have hfl2 : (netsOf rl2).flatten.length ≤ 1048576 := by rw [en2]; exact RO2.out.all
    have HM2 := hide (fun (r : RI) (hr : r ∈ rl2) => Nat.le_trans (flat_mem (List.mem_map.2 ⟨r, hr, rfl⟩ : r.l ∈ netsOf rl2)) hfl2)
    clear b3 hr en2 el2 RO2 BX2 C2 Y2
    go_wp2_with fail
    refine (va_any (some ⟨gc2, 0, none⟩) cc2 l (some ⟨gr2, 0, none⟩) cr2 rl2 y2 D2.out HOK.out (by omega) R2.out (by omega) (by omega)).mono ?_
    rintro e z2 ⟨⟨v2, rfl, hv⟩, b3⟩
    rw [EN2.out] at hv ⊢
    have BB2 := hide (BY2.out.trans (b3.mono BY2.out.size))
    have ZZ2 := hide (Z2.out.trans (b3.mono Z2.out.size))
    have V2 := hide hv
    have V1b := hide (GRow.below V1.out ZZ2.out)
    have O2 := hide (O1.out.below ZZ2.out)
    clear hv b3 BY2 Z2 D2 R2 O1 V1 BB1 ZZ2
    obtain ⟨pe, pl⟩ := va_perm l HP.out
    have HPV := hide (fun h => py_va l HOK.out (netsOf rs2) h)
    have HPW := hide (fun h => py_va l HOK.out (netsOf os) h)
    rw [pe]
    rw [pe, pl] at HPW
    have hvl := vaL_len l HOK.out (netsOf rs2)
    have V2b := V2.out
    rw [pl] at V2b
    clear V2 pe pl
    generalize vaErr l (netsOf rs2) = E at *
    generalize vaL l (netsOf rs2) = V at *
    obtain ⟨a1, c1, e1, k1, _⟩ := GRow.lies V1b.out
    subst e1
    obtain ⟨a2, c2, e2, k2, _⟩ := GRow.lies V2b
    subst e2
    have K1 := counters_true V a1 a2 c1 c2 z2 k1 k2 (by omega)
    have L1 := hide k1
    clear k1 k2 V1b V2b
    go_wp2_with fail
    refine K1.mono ?_
    rintro e q3 ⟨rfl, b3⟩
    have B3 := hide (BB2.out.trans (b3.mono BB2.out.size))
    have L3 := hide (L1.out.below b3)
    have O3 := hide (O2.out.below b3)
    have RS3 := hide (HRS.out.below B3.out)
    clear b3 K1 L1 O2 BB2 HRS
    go_wp2_with fail
    refine (lentC_ok a cap l q3 (HL.out.below B3.out) HNA.out hln).mono ?_
    rintro e x4 ⟨gc4, cc4, rfl, hc, b3⟩
    have BX4 := hide (B3.out.trans (b3.mono B3.out.size))
    have C4 := hide hc
    have RO4 := hide ((RS3.out).below b3)
    have Y4 := hide b3
    clear b3 hc
    go_wp2_with fail
    refine (lent_ok rcap RO4.out).mono ?_
    rintro e y4 ⟨gr4, cr4, rl4, rfl, en4, el4, hr, b3⟩
    have BY4 := hide (BX4.out.trans (b3.mono BX4.out.size))
    have Z4 := hide (Y4.out.trans (b3.mono Y4.out.size))
    have D4 := hide (C4.out.below b3)
    have R4 := hide hr
    have EN4 := hide en4
    have hll4 : rl4.length ≤ 200 := by rw [el4]; exact RO4.out.len
    have hfl4 : (netsOf rl4).flatten.length ≤ 1048576 := by rw [en4]; exact RO4.out.all
    have HM4 := hide (fun (r : RI) (hr : r ∈ rl4) => Nat.le_trans (flat_mem (List.mem_map.2 ⟨r, hr, rfl⟩ : r.l ∈ netsOf rl4)) hfl4)
    clear b3 hr en4 el4 RO4 BX4 C4 Y4
    go_wp2_with fail
    refine (py_any (some ⟨gc4, 0, none⟩) cc4 l (some ⟨gr4, 0, none⟩) cr4 rl4 y4 D4.out HOK.out (by omega) R4.out (by omega) (fun r hr => by have := HM4.out r hr; omega)).mono ?_
    rintro e z4 ⟨⟨v4, rfl, hv⟩, b3⟩
    rw [EN4.out] at hv ⊢
    have BB4 := hide (BY4.out.trans (b3.mono BY4.out.size))
    have ZZ4 := hide (Z4.out.trans (b3.mono Z4.out.size))
    have V4 := hide hv
    have L4 := hide (L3.out.below ZZ4.out)
    have O4 := hide (O3.out.below ZZ4.out)
    clear hv b3 BY4 Z4 D4 R4 O3 L3 B3 ZZ4 RS3
    go_wp2_with fail
    refine (lentC_ok a cap l z4 (HL.out.below BB4.out) HNA.out hln).mono ?_
    rintro e x5 ⟨gc5, cc5, rfl, hc, b3⟩
    have BX5 := hide (BB4.out.trans (b3.mono BB4.out.size))
    have C5 := hide hc
    have RO5 := hide ((O4.out).below b3)
    have Y5 := hide b3
    clear b3 hc
    go_wp2_with fail
    refine (lent_ok oc RO5.out).mono ?_
    rintro e y5 ⟨gr5, cr5, rl5, rfl, en5, el5, hr, b3⟩
    have BY5 := hide (BX5.out.trans (b3.mono BX5.out.size))
    have Z5 := hide (Y5.out.trans (b3.mono Y5.out.size))
    have D5 := hide (C5.out.below b3)
    have R5 := hide hr
    have EN5 := hide en5
    have hll5 : rl5.length ≤ 200 := by rw [el5]; exact RO5.out.len
    have hfl5 : (netsOf rl5).flatten.length ≤ 1048576 := by rw [en5]; exact RO5.out.all
    have HM5 := hide (fun (r : RI) (hr : r ∈ rl5) => Nat.le_trans (flat_mem (List.mem_map.2 ⟨r, hr, rfl⟩ : r.l ∈ netsOf rl5)) hfl5)
    clear b3 hr en5 el5 RO5 BX5 C5 Y5
    go_wp2_with fail
    refine (py_any (some ⟨gc5, 0, none⟩) cc5 l (some ⟨gr5, 0, none⟩) cr5 rl5 y5 D5.out HOK.out (by omega) R5.out (by omega) (fun r hr => by have := HM5.out r hr; omega)).mono ?_
    rintro e z5 ⟨⟨v5, rfl, hv⟩, b3⟩
    rw [EN5.out] at hv ⊢
    have BB5 := hide (BY5.out.trans (b3.mono BY5.out.size))
    have ZZ5 := hide (Z5.out.trans (b3.mono Z5.out.size))
    have V5 := hide hv
    have V4b := hide (GRow.below V4.out ZZ5.out)
    have L5 := hide (L4.out.below ZZ5.out)
    clear hv b3 BY5 Z5 D5 R5 O4 L4 V4 BB4 ZZ5
    generalize pyAt l (netsOf rs2) = t1 at *
    generalize pyAt l (netsOf os) = t2 at *
    generalize pyErr l (netsOf rs2) = F at *
    generalize pyErr l (netsOf os) = G at *
    generalize pyL l (netsOf rs2) = X at *
    generalize pyL l (netsOf os) = Y at *
    obtain ⟨a4, c4, e4, k4, _⟩ := GRow.lies V4b.out
    subst e4
    obtain ⟨a5, c5, e5, k5, _⟩ := GRow.lies V5.out
    subst e5
    have K4 := hide k4
    have K5 := hide k5
    clear k4 k5 V4b V5
    go_upto_region 12 with fail
    go_cut [82] from 71 (fun s w' => s = .bool false ∧ Below z5.heap.size z5 w')
    case first =>
      by_cases hF : F = 0
      · subst hF
        obtain ⟨f1, f2⟩ := HPV.out rfl
        subst f1
        have hx : X.length ≤ 1048576 := by rw [f2]; exact hvl
        subst f2
        have K1 := counters_true _ a4 a1 c4 c1 z5 K4.out L5.out (by omega)
        go_wp2_with fail
        refine K1.mono ?_
        rintro e q5 ⟨rfl, b3⟩
        go_wp2_with fail
        go_meet
        exact ⟨rfl, b3⟩
      · go_wp2_with fail
        go_meet
        exact ⟨rfl, Below.refl _ _⟩
    case rest =>
      obtain ⟨rfl, b3⟩ := hcut
      have B6 := hide (BB5.out.trans (b3.mono BB5.out.size))
      have L6 := hide (L5.out.below b3)
      have K6 := hide (K5.out.below b3)
      clear b3 BB5 L5 K5 K4
      by_cases hG : G = 0
      · subst hG
        obtain ⟨f1, f2⟩ := HPW.out rfl
        subst f1
        have KK := K6.out
        rw [f2] at KK
        rw [f2]
        have K1 := counters_true V a5 a1 c5 c1 wc KK L6.out (by omega)
        go_wp2_with fail
        refine K1.mono ?_
        rintro e q5 ⟨rfl, b3⟩
        have B7 := B6.out.trans (b3.mono B6.out.size)
        go_wp2_with fail
        go_ret
        exact ⟨rfl, B7⟩
      · go_wp2_with fail
        go_ret
        exact ⟨rfl, B6.out⟩
end Go.Proofs.Ytlloppalagddnaa
