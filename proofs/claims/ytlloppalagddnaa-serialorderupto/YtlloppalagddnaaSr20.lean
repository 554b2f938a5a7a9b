import Derived.Test.YtlloppalagddnaaSr19
set_option linter.all false
namespace Go.Proofs.Ytlloppalagddnaa
open Go.RowKit Go.QK Quota Go.Maps Go.QM Go.QS
set_option maxRecDepth 100000
def inF (f : Int → Int) (p : Int × Cn) : Bool := fitB (p.2.val + f p.1)
theorem flat_take (L : List (List Hn)) (k : Nat) (hk : k < L.length) : (L.take (k + 1)).flatten = (L.take k).flatten ++ L[k] := by
  rw [List.take_succ_eq_append_getElem hk, List.flatten_append]
  simp
theorem flat_len (L : List (List Hn)) (k : Nat) : (L.take k).flatten.length ≤ L.flatten.length := by
  have e : L.flatten = (L.take k).flatten ++ (L.drop k).flatten := by rw [← List.flatten_append, List.take_append_drop]
  rw [e, List.length_append]
  omega
theorem flat_stop {C : Cs} {L : List (List Hn)} (k : Nat) (h : thereB C (L.take k).flatten = false) : thereB C L.flatten = false := by
  have e : L.flatten = (L.take k).flatten ++ (L.drop k).flatten := by rw [← List.flatten_append, List.take_append_drop]
  rw [e]
  unfold thereB at *
  rw [List.all_append, h]
  rfl
theorem there_app (C : Cs) (a b : List Hn) : thereB C (a ++ b) = (thereB C a && thereB C b) := by unfold thereB; rw [List.all_append]
set_option maxHeartbeats 16000000 in
theorem va_any (a : Option Addr) (cap : Nat) (l : List Cn) (ra : Option Addr) (rcap : Nat) (rs : List RI) (w : World) (h : Lies w a (cns l)) (hok : ∀ x ∈ l, x.Ok) (hl : l.length * 40 ≤ 140737488355328) (hr : RunsIn w ra rs) (hrl : rs.length * 32 ≤ 140737488355328) (hn : ((netsOf rs).flatten.length + 1) * 8 ≤ 140737488355328) :
    Calls Try.prog 13 #[.slice a l.length cap, .slice ra rs.length rcap] w fun e w' => (∃ v, e = .returned (.tuple #[v, .int .i64 (vaErr l (netsOf rs))]) ∧ CRow w' w.heap.size v (vaL l (netsOf rs))) ∧ Below w.heap.size w w' := by
  by_cases hE : staE [] l = 0
  · have HPE := hide (show vaErr l (netsOf rs) = vaE (staC [] l) (netsOf rs) from if_pos hE)
    have KS := started_ok a cap l w h hok hl hE
    have HC0 := hide (CsOk.sta CsOk.nil hok hE)
    have HR := hide hr
    have hnl : (netsOf rs).length = rs.length := by unfold netsOf; rw [List.length_map]
    have HNL := hide hnl
    have hmm := @run_makeMap Try.prog
    clear h hr hE hnl
    go_enter Try.func13, Try.ntmps13
    go_wp2_with fail
    refine KS.mono ?_
    rintro e w1 ⟨m, rfl, hm, hlo, b1⟩
    have lm1 := World.ownsMap.lt hm
    have ab := alloc_below w1 (.map #[] 0)
    have rm0 := RM.made' w1.heap.size w1 (Nat.le_refl _)
    have M1 := hide (anyAt_below hm ab)
    have B1 := hide b1
    have sw1 := b1.size
    generalize hC0 : staC [] l = C0 at *
    have HCC := hide hC0
    clear KS hm b1 hC0
    generalize hN : w1.heap.size = N at *
    have HN := hide hN
    have hx0 : ∃ x0, x0 = w1.alloc (.map #[] 0) := ⟨_, rfl⟩
    obtain ⟨x0, hx0⟩ := hx0
    rw [← hx0] at rm0 M1 ab
    have AB := hide ab
    have HX0 := hide hx0
    clear hN hx0 ab
    go_upto_region 5 with fail
    rw [show w1.alloc (.map #[] 0) = x0 from HX0.out.symm]
    go_wp2_with fail
    rw [show w1.heap.size = N from HN.out]
    go_loopw [27] (fun i wr => ∃ k : Nat, k ≤ rs.length ∧ i = .int .i64 k ∧ thereB C0 ((netsOf rs).take k).flatten = true ∧ Below N x0 wr ∧ ∃ lab D, RM lab N wr N D ∧ Gd C0 D ∧ ∀ key, idsD D key = dl ((netsOf rs).take k).flatten key) (fun i _ => rs.length - (intOf i).toNat)
    case atStart => exact ⟨0, Nat.zero_le _, rfl, rfl, Below.refl _ _, _, _, rm0, ⟨(fun p hp => by cases hp), fun key x hx => by cases hx⟩, fun key => rfl⟩
    case round =>
      obtain ⟨k, hk, rfl, hth, hb, lab, D, rm, hG, hD⟩ := hrel
      have s0 : N < x0.heap.size := rm0.lt
      by_cases hlt : k < rs.length
      · have hlt2 : k < (netsOf rs).length := by rw [HNL.out]; exact hlt
        have e1 : (netsOf rs)[k] = rs[k].l := List.getElem_map RI.l
        have HFT := hide (flat_take (netsOf rs) k hlt2)
        have hfl := flat_len (netsOf rs) (k + 1)
        rw [HFT.out, List.length_append] at hfl
        rw [e1] at HFT hfl
        have bw : Below w.heap.size w wr := (B1.out.trans (AB.out.mono (by have := HN.out; omega))).trans (hb.mono sw1)
        have rw1 := HR.out.below bw
        have hmem : rs[k] ∈ rs := List.getElem_mem hlt
        obtain ⟨ab, ao, e2, hbl, c0, c1⟩ := ri_at rw1.row k hlt
        obtain ⟨hne, _⟩ := rw1.nets _ hmem
        obtain ⟨_, hnb⟩ := HR.out.nets _ hmem
        have hfit := HR.out.fit _ hmem
        have HFS := hide (fun h => flat_stop (C := C0) (L := netsOf rs) (k + 1) h)
        rw [HFT.out] at HFS
        have HTL := hide (fun key => show (idsD D key).length ≤ ((netsOf rs).take k).flatten.length by rw [hD]; exact dl_len _ _)
        subst e2
        generalize rs[k] = r at *
        generalize hFF : ((netsOf rs).take k).flatten = F at *
        obtain ⟨rt, raa, rc, rl⟩ := r
        simp only at c0 c1 hne hnb hfit HFT HFS hfl
        have swr : N < wr.heap.size := by have := hb.size; omega
        have bA := alloc_below wr (.cells #[.int .i64 rt, .slice raa rl.length rc] 32)
        have KG := gather_any lab N (wr.alloc (.cells #[.int .i64 rt, .slice raa rl.length rc] 32)) N m D C0 rt raa rc rl (rm.below bA) HC0.out (anyAt_below (anyAt_keep M1.out (keepB hb) (by omega)) bA) lm1 hG (by have := bA.size; omega) (hne.below bA) (fun ad e => Nat.lt_of_lt_of_le (hnb ad e) sw1) hfit F.length HTL.out (by omega)
        have B2 := hide (hb.trans (bA.mono (by omega)))
        have HD := hide hD
        have HTH := hide hth
        have HFF := hide hFF
        clear hb rw1 hne hnb hfit bA hmem e1 bw hD hth rm hG rm0 hFF HTL
        go_wp2_with fail
        refine KG.mono ?_
        rintro e w2 ⟨rfl, b2, hyes⟩
        have B3 := hide (B2.out.trans b2)
        clear KG b2
        cases hgt : thereB C0 rl with
        | false =>
          have e5 : gatE C0 rl = 120 := by unfold gatE; rw [hgt]; rfl
          have HV := hide (show vaE C0 (netsOf rs) = 120 from by
            unfold vaE
            rw [HFS.out (by rw [there_app, HTH.out, hgt]; rfl)]
            rfl)
          rw [e5]
          clear hyes hgt e5
          go_wp2_with fail
          go_ret2
          refine ⟨⟨.slice none 0 0, by rw [HPE.out, HV.out]; rfl, ?_⟩, (B1.out.trans (AB.out.mono (by have := HN.out; omega))).trans (B3.out.mono sw1)⟩
          have : vaL l (netsOf rs) = [] := by unfold vaL; rw [HPE.out, HV.out]; rfl
          rw [this]
          exact World.ownsRow_nil _ _ _ _
        | true =>
          have e5 : gatE C0 rl = 0 := by unfold gatE; rw [hgt]; rfl
          rw [e5] at hyes ⊢
          obtain ⟨lab', D', rm', hG', hD'⟩ := hyes rfl
          have RM2 := hide rm'
          have GD2 := hide hG'
          have DD2 := hide hD'
          have HGT := hide hgt
          clear hyes hgt e5 rm' hG' hD'
          go_wp2_with fail
          go_roundw
          case rel => exact ⟨k + 1, hlt, by go_num, by rw [HFT.out, there_app, HTH.out, HGT.out]; rfl, B3.out, lab', D', RM2.out, GD2.out, fun key => by rw [HFT.out, DD2.out, HD.out, dl_app]⟩
          case measure => simp [intOf]; omega
      · have hek : k = rs.length := by omega
        subst hek
        have e3 : (netsOf rs).take rs.length = netsOf rs := by rw [← HNL.out, List.take_length]
        rw [e3] at hth
        simp only [e3] at hD
        have HTH := hide hth
        have HSUM := hide (show ∀ k, isum (idsD D k) = isum (dl (netsOf rs).flatten k) from fun k => by rw [hD k])
        have HDL := hide (show ∀ k, (idsD D k).length ≤ (netsOf rs).flatten.length from fun k => by rw [hD k]; exact dl_len _ _)
        generalize hFF : (netsOf rs).flatten = F at *
        have HFF := hide hFF
        clear hFF
        have hupD := rm.up
        have hupM : Up (mapD D) := (up_map Prod.fst).2 rm.up
        have bw := B1.out.trans (AB.out.mono (by have := HN.out; omega)) |>.trans (hb.mono sw1)
        have HM3 := hide (anyAt_keep M1.out (keepB hb) (by omega))
        have HG := hide hG
        have HRM := hide rm
        have lM := rm.lt
        have HBW := hide bw
        clear hth hD rm hG hupD bw hb rm0 M1
        go_wp2_with (at_range; refine wpList_range_own _ rfl _ 87 rfl 3 89 lawK Try.underlying87 anyElem N _ _ rfl HRM.out.hm ?_; intro w0 hrg0 hg0 hs0)
        have K0 : Keep (fun _ => False) wr w0 := (Keep.refl (fun _ => False) wr).grown hg0 (by nofun)
        have M0 := hide (anyAt_keep HM3.out K0 id)
        have R0 := hide hrg0
        have O0 := hide (show ∀ p ∈ D, Owns .i64 2 w0 N p.2.1 p.2.2 from fun p hp => (HRM.out.own p hp).keep K0 (fun _ _ q => q))
        have K0' := hide (HBW.out.trans (K0.below (B := w.heap.size) (by have := HBW.out.size; omega) (fun z hz q => q)))
        have HLB := hide HRM.out.l6
        have HID := hide HRM.out.ids
        have HLM := hide (show ∀ p ∈ D, ∀ g, p.2.1.ownBlock = some g → g ≠ N from fun p hp g hg q => by have a1 := HRM.out.l6 p hp g hg; have a2 := HRM.out.l0; rw [q] at a1; omega)
        have HLT := hide (show ∀ p ∈ D, ∀ g, p.2.1.ownBlock = some g → N ≤ g ∧ g < wr.heap.size from fun p hp g hg => World.ownsRow.lt (HRM.out.own p hp) g hg)
        generalize hR : wr.heap.size = R at *
        have lM2 : N < R := lM
        clear hrg0 hg0 K0 HM3 HRM lM HBW hR
        go_frame
        go_loopw [12] (fun _ wr => ∃ (left : Lit → Bool) (cnt : Nat), wr.ranges Try.prog 3 anyElem N R D.length (mapE .held (mapD D)) left cnt ∧ AnyAt Try.prog 3 wr m (mapC (CU C0 D left)) ∧ (∀ p ∈ D, left (.int .i64 p.1) = true → Owns .i64 2 wr N p.2.1 p.2.2) ∧ Below w.heap.size w wr ∧ (∀ p ∈ C0, (getM D p.1).isSome = true → left (.int .i64 p.1) = false → inF (fun k => isum (idsD D k)) p = true)) (fun _ wr => wr.rangeLeft N R)
        case atStart =>
          refine ⟨_, _, by have := R0.out; simp only [List.length_map] at this; exact this, ?_, fun p hp _ => O0.out p hp, K0'.out, fun p hp hs hl => ?_⟩
          · rw [CU_start HC0.out.up]; exact M0.out
          · exfalso
            rw [mapE_has, hasM_get] at hl
            have e : getM (mapD D) p.1 = (getM D p.1).map Prod.fst := getM_map (fun (x : Value × List Int) => x.1) D p.1
            rw [e] at hl
            cases q : getM D p.1 with
            | none => rw [q] at hs; cases hs
            | some u => rw [q] at hl; cases hl
        case round =>
          obtain ⟨left, cnt, hrg, hcc, hoo, hkk, hin⟩ := hrel
          have CCH := hide hcc
          have OO := hide hoo
          have KK := hide hkk
          have IN := hide hin
          clear hcc hoo hkk hin R0 M0 O0 K0'
          go_wp2_with (at_next; refine wpList_next_ranges _ rfl _ rfl 3 lawK anyElem (Value.int .i64) idV (fun key kl hkey => by obtain ⟨x, rfl, _⟩ := Maps.keyOf_int_inv Try.underlying3 hkey; exact ⟨x, rfl⟩) (fun v y _ => ⟨v, rfl⟩) N R _ _ _ _ rfl hrg ?_ ?_)
          · intro _ hl0
            have hall : C0.all (fun p => fitB (p.2.val + isum (dl F p.1))) = true := by
              refine List.all_eq_true.2 (fun p hp => ?_)
              cases q : getM D p.1 with
              | none =>
                have e0 : isum (dl F p.1) = 0 := by
                  rw [← HSUM.out]
                  have : idsD D p.1 = [] := by unfold idsD; rw [q]; rfl
                  rw [this]; rfl
                have hb := (HC0.out.ok p hp).2.2.2.1
                simp only [e0, Int.add_zero]
                exact fitB_true.2 hb
              | some u =>
                have := IN.out p hp (by rw [q]; rfl) (hl0 _)
                unfold inF at this
                simp only [HSUM.out] at this
                exact this
            have HVE := hide (show vaE C0 (netsOf rs) = 0 from by unfold vaE; rw [HFF.out, HTH.out, hall]; rfl)
            have HPC : CU C0 D left = vaC C0 (netsOf rs) := by
              rw [CU_end HC0.out.up D left hl0]
              unfold vaC
              rw [HFF.out]
              congr 1
              funext k
              exact HSUM.out k
            have hcw : CsW (vaC C0 (netsOf rs)) := by unfold vaC; exact (CsW.of HC0.out).add _
            have CC2 := hide (show AnyAt Try.prog 3 wr m (mapC (vaC C0 (netsOf rs))) by rw [← HPC]; exact CCH.out)
            have KT := fun wq (hq : AnyAt Try.prog 3 wq m (mapC (vaC C0 (netsOf rs)))) => told_any wq m _ hcw hq
            clear hall HPC CCH hcw
            go_wp2_with fail
            refine (KT _ CC2.out).mono ?_
            rintro e w3 ⟨v, rfl, r3, _, b3⟩
            have R3 := hide (GRow.mono r3 KK.out.size)
            have B3 := hide (KK.out.trans (b3.mono KK.out.size))
            clear KT r3 b3
            go_wp2_with fail
            go_ret2
            refine ⟨⟨v, by rw [HPE.out, HVE.out]; rfl, ?_⟩, B3.out⟩
            have : vaL l (netsOf rs) = cnL (vaC C0 (netsOf rs)) := by unfold vaL; rw [HPE.out, if_pos HVE.out, HCC.out]
            rw [this]
            exact R3.out
          · intro x c kl y ps w1 cnt1 hkey hlx hy hps hat hrg1 hlt hg1 hs1 hen
            obtain ⟨x', ex, rfl, hwx⟩ := Maps.keyOf_int_inv Try.underlying3 hkey
            cases ex
            obtain ⟨c', hg, hd, _⟩ := visitE hupM left hlx (d := .held c) (fun zd => (hat zd).trans hy.symm)
            have ec : c = c' := by injection hd
            subst ec
            simp only [idV] at hen
            have eg : getM (mapD D) x = (getM D x).map Prod.fst := getM_map (fun (x : Value × List Int) => x.1) D x
            rw [eg] at hg
            cases hgD : getM D x with
            | none => rw [hgD] at hg; cases hg
            | some u =>
              obtain ⟨uv, us⟩ := u
              rw [hgD] at hg
              cases hg
              have hmem := getM_mem hgD
              have hids : idsD D x = us := by unfold idsD; rw [hgD]; rfl
              have hth := HG.out.there _ hmem
              simp only at hth
              cases hCx : getM C0 x with
              | none => rw [hCx] at hth; cases hth
              | some cx =>
                have hcid := HC0.out.ids _ (getM_mem hCx)
                have hcok := HC0.out.ok _ (getM_mem hCx)
                simp only at hcid hcok
                have hx64 : I64 x := by unfold I64; omega
                have hall : All us := by have := HG.out.fit x; rw [hids] at this; exact this
                have hul : us.length ≤ F.length := by have := HDL.out x; rw [hids] at this; exact this
                have k01 : Keep (fun z => z = R) wr w1 := (Keep.refl (fun z => z = R) wr).grown hg1 (by rintro g ⟨⟩ _; rfl)
                have lR : R < w1.heap.size := hrg1.lt
                have lt1 := fun g hg => HLT.out _ hmem g hg
                have lb1 := fun g hg => HLB.out _ hmem g hg
                simp only at lt1 lb1
                have ow1 := (OO.out _ hmem hlx).keep k01 (fun g hg q => by have := (lt1 g hg).2; omega)
                simp only at ow1
                have oo1 := hide (show ∀ p ∈ D, p.1 ≠ x → left (.int .i64 p.1) = true → Owns .i64 2 w1 N p.2.1 p.2.2 ∧ ∀ g, p.2.1.ownBlock = some g → uv.ownBlock ≠ some g from fun p hp hne hlp => ⟨(OO.out p hp hlp).keep k01 (fun g hg q => by have := (HLT.out p hp g hg).2; omega), fun g hg q => by
                  have a1 := HLB.out p hp g hg
                  have a2 := lb1 g q
                  have a3 := HID.out p hp
                  omega⟩)
                have cc1 := hide (anyAt_keep CCH.out k01 (by omega))
                have hlk := any_run lawK Try.underlying83 zeroC5 cc1.out (keyI hx64)
                have e5 : getM (mapC (CU C0 D left)) x = some (cnV cx) := by
                  have e6 := getC (CU C0 D left) x
                  rw [e6, CU_get, hCx, hlx]
                  simp
                rw [e5, Option.getD_some] at hlk
                have kk1 := hide (KK.out.trans (k01.below (B := w.heap.size) KK.out.size (fun z hz q => by omega)))
                have RG := hide hrg1
                have HC2 := hide hCx
                have HD2 := hide hgD
                have LT := hide hlt
                have IDS := hide hids
                have HLX := hide hlx
                have sw2 : N ≤ w1.heap.size := by omega
                have KB := behind_any cx N uv us w1 ow1 hall hcok.2.2.2.1 (by omega) sw2
                obtain ⟨id, grp, lo, hi, val⟩ := cx
                simp only [Cn.set] at KB hcid
                obtain ⟨hidx, hc1, hc2⟩ := hcid
                have hidx := hidx.symm
                subst hidx
                have e7 : isum (idsD D x) = isum us := by rw [hids]
                have IE := hide (show inF (fun k => isum (idsD D k)) (x, ⟨x, grp, lo, hi, val⟩) = fitB (val + isum us) from by unfold inF; simp only [e7])
                have ES := hide e7
                have lN : ∀ g, uv.ownBlock = some g → N ≤ g := fun g q => (lt1 g q).1
                clear hrg1 hCx hgD hd hat hy e5 hth e7 hids hlt hlx ow1 k01 OO KK CCH hg1 eg hcok
                generalize hS : isum us = sm at *
                have hSM := hide hS
                clear hS
                have EV := hide (show val + sm = sm + val from Int.add_comm _ _)
                by_cases hfit : fitB (sm + val) = true
                · obtain ⟨f1, f2⟩ := fit_yes hfit
                  rw [f1, f2] at KB
                  have INX := hide (show inF (fun k => isum (idsD D k)) (x, ⟨x, grp, lo, hi, val⟩) = true from by rw [IE.out, EV.out]; exact hfit)
                  generalize hsv : sm + val = sv at *
                  clear hfit f1 f2 hsv
                  go_wp2_with fail
                  refine KB.mono ?_
                  rintro e w2 ⟨rfl, k12⟩
                  have K12 := hide k12
                  clear k12 KB hlk hen
                  have bb2 := alloc_below w2 (.cells #[.int .i64 x, .int .i64 grp, .int .i64 lo, .int .i64 hi, .int .i64 sv] 65)
                  have gr12 : w1.grownBy w2 uv.ownBlock := ⟨K12.out.os, K12.out.tape, K12.out.output, K12.out.size, fun i hi hne => K12.out.block i hi (fun q => hne q.symm)⟩
                  have r3 := ((RG.out.kept gr12 (fun q => HLM.out _ hmem _ q.symm rfl) (fun q => by have := (lt1 _ q.symm).2; omega)).alloc (.cells #[.int .i64 x, .int .i64 grp, .int .i64 lo, .int .i64 hi, .int .i64 sv] 65))
                  have cc3 := anyAt_below (anyAt_keep cc1.out K12.out (fun q => by have := lN _ q; omega)) bb2
                  obtain ⟨w4, hu, cc4, hg4⟩ := any_upd lawK Try.underlying83 cc3 ((up_map (fun (x : Cn) => cnV x)).2 (CU_up HC0.out.up D left)) (keyI hx64) (by rw [List.length_map, CU_len]; have := CsOk.len HC0.out; omega) (.agg #[.int .i64 x, .int .i64 grp, .int .i64 lo, .int .i64 hi, .int .i64 sv])
                  have r4 := hide (r3.kept hg4 (by intro q; injection q with q; omega) (by intro q; injection q with q; omega))
                  have k34 := grown_m hg4
                  have o4 := hide (show ∀ p ∈ D, p.1 ≠ x → left (.int .i64 p.1) = true → Owns .i64 2 w4 N p.2.1 p.2.2 from fun p hp hne hlp => (((oo1.out p hp hne hlp).1.keep K12.out (fun g hg q => (oo1.out p hp hne hlp).2 g hg q)).below bb2).keep k34 (fun g hg q => by have := (HLT.out p hp g hg).1; omega))
                  have kk2 := kk1.out.trans (K12.out.below (B := w.heap.size) kk1.out.size (fun z hz q => by have := lN _ q; omega))
                  have kk3 := kk2.trans (bb2.mono kk2.size)
                  have kk4 := hide (kk3.trans (k34.below (B := w.heap.size) kk3.size (fun z hz q => by omega)))
                  have e8 : putM x (.agg #[.int .i64 x, .int .i64 grp, .int .i64 lo, .int .i64 hi, .int .i64 sv]) (mapC (CU C0 D left)) = mapC (CU C0 D (fun z => left z && !z.sameKey (.int .i64 x))) := by
                    have e9 := CU_step HC0.out.up D left HC2.out (by rw [HD2.out]; rfl)
                    rw [← e9]
                    have e10 := (putM_map (fun (x : Cn) => cnV x) x ((⟨x, grp, lo, hi, val⟩ : Cn).set (val + isum (idsD D x))) (CU C0 D left)).symm
                    simp only [Cn.set, ES.out, EV.out] at e10 ⊢
                    exact e10
                  rw [e8] at cc4
                  have CC4 := hide cc4
                  have HU := hide hu
                  have HKIN := hide (show ∀ p ∈ C0, (getM D p.1).isSome = true → (left (.int .i64 p.1) && !(Lit.int .i64 p.1).sameKey (.int .i64 x)) = false → inF (fun k => isum (idsD D k)) p = true from fun p hp hs hlp => by
                    by_cases q : p.1 = x
                    · have e9 := getM_of_mem HC0.out.up hp
                      rw [q, HC2.out] at e9
                      have e10 : p = (x, ⟨x, grp, lo, hi, val⟩) := Prod.ext q (Option.some.inj e9).symm
                      rw [e10]
                      exact INX.out
                    · refine IN.out p hp hs ?_
                      have e11 : (Lit.int .i64 p.1).sameKey (.int .i64 x) = false := by simp [Lit.sameKey, q]
                      rw [e11] at hlp
                      simpa using hlp)
                  clear gr12 r3 cc3 hg4 k34 e8 cc4 kk2 kk3 bb2 hu
                  have hu := HU.out
                  go_wp2_with fail
                  go_roundw
                  case rel =>
                    refine ⟨_, cnt1, r4.out, CC4.out, fun p hp hlp => ?_, kk4.out, HKIN.out⟩
                    have hne : p.1 ≠ x := fun q => by rw [q] at hlp; simp [Lit.sameKey] at hlp
                    exact o4.out p hp hne (by simp at hlp; exact hlp.1)
                  case measure => rw [r4.out.left_eq, hrg.left_eq]; exact LT.out
                · have HX := hide (show vaE C0 (netsOf rs) = 10 from by
                    unfold vaE
                    rw [HFF.out, HTH.out]
                    have : C0.all (fun p => fitB (p.2.val + isum (dl F p.1))) = false := by
                      rw [List.all_eq_false]
                      refine ⟨(x, ⟨x, grp, lo, hi, val⟩), getM_mem HC2.out, ?_⟩
                      have e12 : isum (dl F x) = sm := by rw [← HSUM.out, ES.out]
                      simp only [e12, EV.out]
                      exact hfit
                    rw [this]
                    rfl)
                  obtain ⟨f1, f2⟩ := fit_no (by simpa using hfit)
                  rw [f1, f2] at KB
                  clear hfit f1 f2
                  go_wp2_with fail
                  refine KB.mono ?_
                  rintro e w2 ⟨rfl, k12⟩
                  have B9 := hide (kk1.out.trans (k12.below (B := w.heap.size) kk1.out.size (fun z hz q => by have := lN _ q; omega)))
                  clear k12 KB hlk hen
                  go_wp2_with fail
                  go_ret2
                  refine ⟨⟨.slice none 0 0, by rw [HPE.out, HX.out]; rfl, ?_⟩, B9.out.alloc B9.out.size _⟩
                  have : vaL l (netsOf rs) = [] := by unfold vaL; rw [HPE.out, HX.out]; rfl
                  rw [this]
                  exact World.ownsRow_nil _ _ _ _
  · have KS := started_bad a cap l w h hok hl hE
    have HPE := hide (show vaErr l (netsOf rs) = staE [] l from if_neg hE)
    have h1 : (staE [] l != 0) = true := by simpa using hE
    have HZ := hide hE
    generalize hEE : staE [] l = E at *
    clear h hr hn hE hEE
    go_enter Try.func13, Try.ntmps13
    go_wp2_with fail
    refine KS.mono ?_
    rintro e w1 ⟨rfl, b1⟩
    have B1 := hide b1
    clear KS b1
    go_wp2_with fail
    go_ret2
    refine ⟨⟨.slice none 0 0, by rw [HPE.out]; rfl, ?_⟩, B1.out⟩
    have : vaL l (netsOf rs) = [] := by unfold vaL; rw [HPE.out, if_neg HZ.out]
    rw [this]
    exact World.ownsRow_nil _ _ _ _
end Go.Proofs.Ytlloppalagddnaa
