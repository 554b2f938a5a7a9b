import Derived.Test.YtlloppalagddnaaSr13
set_option linter.all false
namespace Go.Proofs.Ytlloppalagddnaa
open Go.RowKit Go.QK Quota Go.Maps Go.QM Go.QS
set_option maxRecDepth 100000
abbrev rnV (tx : Int) (a : Option Addr) (n c : Nat) : Value := .agg #[.int .i64 tx, .slice a n c]
set_option maxHeartbeats 16000000 in
theorem play_any (w : World) (mc : Nat) (C : Cs) (tx : Int) (a : Option Addr) (cap : Nat) (l : List Hn) (hC : CsOk C) (hm : AnyAt Try.prog 3 w mc (mapC C)) (hl : Lies w a (hns l)) (hla : ∀ ad, a = some ad → ad.block < w.heap.size) (hi : ∀ x ∈ l, I64 x.2.1 ∧ I64 x.2.2) (hn : (l.length + 1) * 8 ≤ 140737488355328) :
    Calls Try.prog 34 #[.map (some mc), rnV tx a l.length cap] w fun e w' => e = .returned (.int .i64 (plyE C l)) ∧ Keep (fun z => z = mc) w w' ∧ (plyE C l = 0 → AnyAt Try.prog 3 w' mc (mapC (plyC C l))) := by
  have lmc := World.ownsMap.lt hm
  have hmm := @run_makeMap Try.prog
  have b1 := alloc_below w (.cells #[.int .i64 tx, .slice a l.length cap] 32)
  have rm0 := RM.made' w.heap.size (w.alloc (.cells #[.int .i64 tx, .slice a l.length cap] 32)) b1.size
  have b2 := alloc_below (w.alloc (.cells #[.int .i64 tx, .slice a l.length cap] 32)) (.map #[] 0)
  have bb : Below w.heap.size w ((w.alloc (.cells #[.int .i64 tx, .slice a l.length cap] 32)).alloc (.map #[] 0)) := b1.trans (b2.mono b1.size)
  have C0 := (Cells.new w #[.int .i64 tx, .slice a l.length cap] 32).below b2
  have hes : (w.alloc (.cells #[.int .i64 tx, .slice a l.length cap] 32)).heap.size = w.heap.size + 1 := by simp
  rw [hes] at rm0
  generalize hx2 : (w.alloc (.cells #[.int .i64 tx, .slice a l.length cap] 32)).alloc (.map #[] 0) = x2 at *
  have KG := gather_any (fun _ => 1) w.heap.size x2 (w.heap.size + 1) mc [] C tx a cap l rm0 hC (anyAt_below hm bb) lmc ⟨(fun p hp => by cases hp), fun key x hx => by cases hx⟩ bb.size (hl.below bb) hla hi 0 (fun key => Nat.le_refl _) (by omega)
  have HM := hide hm
  obtain ⟨c0, _⟩ := C0.get 0 _ rfl
  obtain ⟨c1, _⟩ := C0.get 1 _ rfl
  have HX2 := hide hx2
  have BB := hide bb
  clear hm hl hi rm0 b1 b2 bb C0 hx2
  generalize hN : w.heap.size = N at *
  have HN := hide hN
  clear hN
  cases hth : thereB C l with
  | false =>
    have HP := hide (show plyE C l = 120 from by unfold plyE; rw [hth]; rfl)
    have e1 : gatE C l = 120 := by unfold gatE; rw [hth]; rfl
    rw [e1] at KG
    clear e1 hth
    go_enter Try.func34, Try.ntmps34
    go_upto_region 2 with fail
    rw [show (w.alloc (.cells #[.int .i64 tx, .slice a l.length cap] 32)).alloc (.map #[] 0) = x2 from HX2.out, show w.heap.size = N from HN.out]
    go_wp2_with fail
    refine KG.mono ?_
    rintro e x3 ⟨rfl, b3, _⟩
    have B3 := hide (BB.out.trans (b3.mono (by have := BB.out.size; omega)))
    clear b3 KG c0 c1
    go_wp2_with fail
    go_ret
    exact ⟨by rw [HP.out]; rfl, Keep.of_below (by rw [HN.out]; exact B3.out), fun q => by rw [HP.out] at q; cases q⟩
  | true =>
    have HTH := hide hth
    have e1 : gatE C l = 0 := by unfold gatE; rw [hth]; rfl
    rw [e1] at KG
    clear e1 hth
    go_enter Try.func34, Try.ntmps34
    go_upto_region 2 with fail
    rw [show (w.alloc (.cells #[.int .i64 tx, .slice a l.length cap] 32)).alloc (.map #[] 0) = x2 from HX2.out, show w.heap.size = N from HN.out]
    go_wp2_with fail
    refine KG.mono ?_
    rintro e x3 ⟨rfl, b3, hyes⟩
    obtain ⟨lab, D, rm, hG, hD⟩ := hyes (by first | trivial | rfl)
    have hsum : ∀ k, isum (idsD D k) = isum (dl l k) := fun k => by
      have := hD k
      rw [this]
      rfl
    have hdl : ∀ k, (idsD D k).length ≤ l.length := fun k => by
      have := hD k
      rw [this]
      exact dl_len l k
    have HSUM := hide hsum
    have HDL := hide hdl
    have B3 := hide (BB.out.trans (b3.mono (by have := BB.out.size; omega)))
    have sN : N ≤ x3.heap.size := by have := B3.out.size; have := HN.out; omega
    have hupD := rm.up
    have hupM : Up (mapD D) := (up_map Prod.fst).2 rm.up
    have HM3 := hide (anyAt_below HM.out (by rw [HN.out]; exact B3.out))
    have HG := hide hG
    have HRM := hide rm
    have HU := hide hupD
    have lM := rm.lt
    clear b3 KG c0 c1 hyes HM rm hG hsum hdl hD hupD
    go_wp2_with (at_range; refine wpList_range_own _ rfl _ 87 rfl 3 89 lawK Try.underlying87 anyElem (N + 1) _ _ rfl HRM.out.hm ?_; intro w0 hrg0 hg0 hs0)
    have K0 : Keep (fun _ => False) x3 w0 := (Keep.refl (fun _ => False) x3).grown hg0 (by nofun)
    have M0 := hide (anyAt_keep HM3.out K0 id)
    have R0 := hide hrg0
    have O0 := hide (show ∀ p ∈ D, Owns .i64 2 w0 N p.2.1 p.2.2 from fun p hp => (HRM.out.own p hp).keep K0 (fun _ _ q => q))
    have K0' := hide ((Keep.of_below (S := fun z => z = mc) (by rw [HN.out]; exact B3.out)).trans (K0.mono (T := fun z => z = mc) (fun _ _ q => q.elim)) (fun _ _ q => q))
    have HLB := hide HRM.out.l6
    have HID := hide HRM.out.ids
    have HLM := hide (show ∀ p ∈ D, ∀ g, p.2.1.ownBlock = some g → g ≠ N + 1 from fun p hp g hg q => by have a1 := HRM.out.l6 p hp g hg; have a2 := HRM.out.l0; rw [q] at a1; omega)
    have HLT := hide (show ∀ p ∈ D, ∀ g, p.2.1.ownBlock = some g → N ≤ g ∧ g < x3.heap.size from fun p hp g hg => World.ownsRow.lt (HRM.out.own p hp) g hg)
    generalize hR : x3.heap.size = R at *
    have sN2 : N ≤ R := sN
    have lM2 : N + 1 < R := lM
    clear hrg0 hg0 K0 HM3 HRM lM sN hR
    go_frame
    go_loopw [7] (fun _ wr => ∃ (left : Lit → Bool) (cnt : Nat), wr.ranges Try.prog 3 anyElem (N + 1) R D.length (mapE .held (mapD D)) left cnt ∧ AnyAt Try.prog 3 wr mc (mapC (CU C D left)) ∧ (∀ p ∈ D, left (.int .i64 p.1) = true → Owns .i64 2 wr N p.2.1 p.2.2) ∧ Keep (fun z => z = mc) w wr ∧ (∀ p ∈ C, (getM D p.1).isSome = true → left (.int .i64 p.1) = false → inC (fun k => isum (idsD D k)) p = true)) (fun _ wr => wr.rangeLeft (N + 1) R)
    case atStart =>
      refine ⟨_, _, by have := R0.out; simp only [List.length_map] at this; exact this, ?_, fun p hp _ => O0.out p hp, K0'.out, fun p hp hs hl => ?_⟩
      · rw [CU_start hC.up]; exact M0.out
      · exfalso
        rw [mapE_has, hasM_get] at hl
        have e : getM (mapD D) p.1 = (getM D p.1).map Prod.fst := getM_map (fun (x : Value × List Int) => x.1) D p.1
        rw [e] at hl
        cases q : getM D p.1 with
        | none => rw [q] at hs; cases hs
        | some u => rw [q] at hl; cases hl
    case round =>
      obtain ⟨left, cnt, hrg, hcc, hoo, hkk, hin⟩ := hrel
      have CCH := hide hcc
      have OO := hide hoo
      have KK := hide hkk
      have IN := hide hin
      clear hcc hoo hkk hin R0 M0 O0 K0'
      go_wp2_with (at_next; refine wpList_next_ranges _ rfl _ rfl 3 lawK anyElem (Value.int .i64) idV (fun key kl hkey => by obtain ⟨x, rfl, _⟩ := Maps.keyOf_int_inv Try.underlying3 hkey; exact ⟨x, rfl⟩) (fun v y _ => ⟨v, rfl⟩) (N + 1) R _ _ _ _ rfl hrg ?_ ?_)
      · intro _ hl0
        have hall : C.all (inC (fun k => isum (dl l k))) = true := by
          refine List.all_eq_true.2 (fun p hp => ?_)
          cases q : getM D p.1 with
          | none =>
            have e0 : isum (dl l p.1) = 0 := by
              rw [← HSUM.out]
              have : idsD D p.1 = [] := by unfold idsD; rw [q]; rfl
              rw [this]; rfl
            have hb := hC.bnd p hp
            unfold inC
            simp only [e0]
            simp
            omega
          | some u =>
            have := IN.out p hp (by rw [q]; rfl) (hl0 _)
            unfold inC at this ⊢
            simp only [HSUM.out] at this
            exact this
        have HPE := hide (show plyE C l = 0 from by unfold plyE; rw [HTH.out, hall]; rfl)
        have HPC := hide (show CU C D left = plyC C l from by
          rw [CU_end hC.up D left hl0]
          unfold plyC
          congr 1
          funext k
          exact HSUM.out k)
        clear hall
        go_wp2_with fail
        go_ret
        exact ⟨by rw [HPE.out]; rfl, KK.out, fun _ => by rw [← HPC.out]; exact CCH.out⟩
      · intro x c kl y ps w1 cnt1 hkey hlx hy hps hat hrg1 hlt hg1 hs1 hen
        obtain ⟨x', ex, rfl, hwx⟩ := Maps.keyOf_int_inv Try.underlying3 hkey
        cases ex
        obtain ⟨c', hg, hd, _⟩ := visitE hupM left hlx (d := .held c) (fun zd => (hat zd).trans hy.symm)
        have ec : c = c' := by injection hd
        subst ec
        simp only [idV] at hen
        have eg : getM (mapD D) x = (getM D x).map Prod.fst := getM_map (fun (x : Value × List Int) => x.1) D x
        rw [eg] at hg
        cases hgD : getM D x with
        | none => rw [hgD] at hg; cases hg
        | some u =>
          obtain ⟨uv, us⟩ := u
          rw [hgD] at hg
          cases hg
          have hmem := getM_mem hgD
          have hids : idsD D x = us := by unfold idsD; rw [hgD]; rfl
          have hth := HG.out.there _ hmem
          simp only at hth
          cases hCx : getM C x with
          | none => rw [hCx] at hth; cases hth
          | some cx =>
            have hcid := hC.ids _ (getM_mem hCx)
            have hcok := hC.ok _ (getM_mem hCx)
            simp only at hcid hcok
            have hx64 : I64 x := by unfold I64; omega
            have hall : All us := by have := HG.out.fit x; rw [hids] at this; exact this
            have hul : us.length ≤ l.length := by have := HDL.out x; rw [hids] at this; exact this
            have k01 : Keep (fun z => z = R) wr w1 := (Keep.refl (fun z => z = R) wr).grown hg1 (by rintro g ⟨⟩ _; rfl)
            have lmR : mc < R := by omega
            have lR : R < w1.heap.size := hrg1.lt
            have lt1 := fun g hg => HLT.out _ hmem g hg
            have lb1 := fun g hg => HLB.out _ hmem g hg
            simp only at lt1 lb1
            have ow1 := (OO.out _ hmem hlx).keep k01 (fun g hg q => by have := (lt1 g hg).2; omega)
            simp only at ow1
            have oo1 := hide (show ∀ p ∈ D, p.1 ≠ x → left (.int .i64 p.1) = true → Owns .i64 2 w1 N p.2.1 p.2.2 ∧ ∀ g, p.2.1.ownBlock = some g → uv.ownBlock ≠ some g from fun p hp hne hlp => ⟨(OO.out p hp hlp).keep k01 (fun g hg q => by have := (HLT.out p hp g hg).2; omega), fun g hg q => by
              have a1 := HLB.out p hp g hg
              have a2 := lb1 g q
              have a3 := HID.out p hp
              omega⟩)
            have cc1 := hide (anyAt_keep CCH.out k01 (by omega))
            have hlk := any_run lawK Try.underlying83 zeroC5 cc1.out (keyI hx64)
            have e5 : getM (mapC (CU C D left)) x = some (cnV cx) := by
              have e6 := getC (CU C D left) x
              rw [e6, CU_get, hCx, hlx]
              simp
            rw [e5, Option.getD_some] at hlk
            have kk1 := hide (KK.out.trans k01 (fun j hj q => by have := HN.out; omega))
            have RG := hide hrg1
            have HC2 := hide hCx
            have HD2 := hide hgD
            have LT := hide hlt
            have IDS := hide hids
            have HLX := hide hlx
            have sw1 : N ≤ w1.heap.size := by omega
            have KB := behind_any cx N uv us w1 ow1 hall hcok.2.2.2.1 (by omega) sw1
            obtain ⟨id, grp, lo, hi, val⟩ := cx
            simp only [Cn.set] at KB hcid
            obtain ⟨hidx, hc1, hc2⟩ := hcid
            have hidx := hidx.symm
            subst hidx
            have e7 : isum (idsD D x) = isum us := by rw [hids]
            have IE := hide (show inC (fun k => isum (idsD D k)) (x, ⟨x, grp, lo, hi, val⟩) = (decide (lo ≤ val + isum us) && decide (val + isum us ≤ hi)) from by unfold inC; simp only [e7])
            have ES := hide e7
            obtain ⟨i64g, i64lo, i64hi, i64v, _⟩ := hcok
            simp only at i64g i64lo i64hi i64v
            clear hrg1 hCx hgD hd hat hy e5 hth e7 hids hlt hlx ow1 k01 OO KK CCH hg1 eg
            generalize hS : isum us = sm at *
            have hSM := hide hS
            clear hS
            by_cases hin : lo ≤ val + sm ∧ val + sm ≤ hi
            · have hfit : fitB (sm + val) = true := isum_inV (v := val) (s := sm) i64lo i64hi hin
              obtain ⟨f1, f2⟩ := fit_yes hfit
              rw [f1, f2] at KB
              have HHB := hide (show hasB lo hi (sm + val) = true from by unfold hasB; simp; omega)
              have KH := fun w' => has_any lo hi (sm + val) w'
              rw [HHB.out] at KH
              have FIT := hide (show I64 (sm + val) from fitB_true.1 hfit)
              have EV := hide (show val + sm = sm + val from Int.add_comm _ _)
              generalize hsv : sm + val = sv at *
              clear hfit f1 f2 hsv HHB
              go_wp2_with fail
              refine KB.mono ?_
              rintro e w2 ⟨rfl, k12⟩
              have K12 := hide k12
              clear k12 KB hlk hen
              go_wp2_with fail
              refine (KH _).mono ?_
              rintro e w3 ⟨rfl, h3⟩
              have CB := (Cells.new w2 #[.int .i64 x, .int .i64 grp, .int .i64 lo, .int .i64 hi, .int .i64 sv] 65).below h3
              have b23 := hide (below1 h3)
              have gr12 : w1.grownBy w2 uv.ownBlock := ⟨K12.out.os, K12.out.tape, K12.out.output, K12.out.size, fun i hi hne => K12.out.block i hi (fun q => hne q.symm)⟩
              have gr23 : w2.grownBy w3 none := ⟨b23.out.os, b23.out.tape, b23.out.output, b23.out.size, fun i hi _ => b23.out.block i hi⟩
              have r3 := ((RG.out.kept gr12 (fun q => HLM.out _ hmem _ q.symm rfl) (fun q => by have := (lt1 _ q.symm).2; omega)).kept gr23 (by nofun) (by nofun))
              have lN : ∀ g, uv.ownBlock = some g → N ≤ g := fun g q => (lt1 g q).1
              have cc3 := anyAt_below (anyAt_keep cc1.out K12.out (fun q => by have := lN _ q; omega)) b23.out
              obtain ⟨w4, hu, cc4, hg4⟩ := any_upd lawK Try.underlying83 cc3 ((up_map (fun (x : Cn) => cnV x)).2 (CU_up hC.up D left)) (keyI hx64) (by rw [List.length_map, CU_len]; have := CsOk.len hC; omega) (.agg #[.int .i64 x, .int .i64 grp, .int .i64 lo, .int .i64 hi, .int .i64 sv])
              have r4 := hide (r3.kept hg4 (by intro q; cases q; omega) (by intro q; cases q; omega))
              have k34 := grown_m hg4
              have o4 := hide (show ∀ p ∈ D, p.1 ≠ x → left (.int .i64 p.1) = true → Owns .i64 2 w4 N p.2.1 p.2.2 from fun p hp hne hlp => (((oo1.out p hp hne hlp).1.keep K12.out (fun g hg q => (oo1.out p hp hne hlp).2 g hg q)).below b23.out).keep k34 (fun g hg q => by have := (HLT.out p hp g hg).1; omega))
              have kk4 := hide (((kk1.out.trans K12.out (fun j hj q => by have := lN _ q; have := HN.out; omega)).then_below b23.out).trans k34 (fun j hj q => q))
              have e8 : putM x (.agg #[.int .i64 x, .int .i64 grp, .int .i64 lo, .int .i64 hi, .int .i64 sv]) (mapC (CU C D left)) = mapC (CU C D (fun z => left z && !z.sameKey (.int .i64 x))) := by
                have e9 := CU_step hC.up D left HC2.out (by rw [HD2.out]; rfl)
                rw [← e9]
                have e10 := (putM_map (fun (x : Cn) => cnV x) x ((⟨x, grp, lo, hi, val⟩ : Cn).set (val + isum (idsD D x))) (CU C D left)).symm
                simp only [Cn.set, ES.out, EV.out] at e10 ⊢
                exact e10
              rw [e8] at cc4
              have CC4 := hide cc4
              have HU := hide hu
              obtain ⟨d0, _⟩ := CB.get 0 _ rfl
              obtain ⟨d1, _⟩ := CB.get 1 _ rfl
              obtain ⟨d2, _⟩ := CB.get 2 _ rfl
              obtain ⟨d3, _⟩ := CB.get 3 _ rfl
              obtain ⟨d4, _⟩ := CB.get 4 _ rfl
              have INX := hide (show inC (fun k => isum (idsD D k)) (x, ⟨x, grp, lo, hi, val⟩) = true from by rw [IE.out]; simp; exact hin)
              clear h3 CB gr12 gr23 r3 cc3 hg4 k34 e8 cc4 KH
              go_wp2_with fail
              go_roundw
              case rel =>
                refine ⟨_, cnt1, r4.out, CC4.out, fun p hp hlp => ?_, kk4.out, fun p hp hs hlp => ?_⟩
                · have hne : p.1 ≠ x := fun q => by rw [q] at hlp; simp [Lit.sameKey] at hlp
                  exact o4.out p hp hne (by simp at hlp; exact hlp.1)
                · by_cases q : p.1 = x
                  · have e9 := getM_of_mem hC.up hp
                    rw [q, HC2.out] at e9
                    have e10 : p = (x, ⟨x, grp, lo, hi, val⟩) := Prod.ext q (Option.some.inj e9).symm
                    rw [e10]
                    exact INX.out
                  · refine IN.out p hp hs ?_
                    have e11 : (Lit.int .i64 p.1).sameKey (.int .i64 x) = false := by simp [Lit.sameKey, q]
                    rw [e11] at hlp
                    simpa using hlp
              case measure => rw [r4.out.left_eq, hrg.left_eq]; exact LT.out
            · have HX := hide (show plyE C l = 110 from by
                unfold plyE
                rw [HTH.out]
                have : C.all (inC (fun k => isum (dl l k))) = false := by
                  rw [List.all_eq_false]
                  refine ⟨(x, ⟨x, grp, lo, hi, val⟩), getM_mem HC2.out, ?_⟩
                  have e12 : inC (fun k => isum (dl l k)) (x, ⟨x, grp, lo, hi, val⟩) = inC (fun k => isum (idsD D k)) (x, ⟨x, grp, lo, hi, val⟩) := by unfold inC; simp only [HSUM.out]
                  rw [e12, IE.out]
                  simp
                  omega
                rw [this]
                rfl)
              have lN : ∀ g, uv.ownBlock = some g → N ≤ g := fun g q => (lt1 g q).1
              by_cases hfit : fitB (sm + val) = true
              · obtain ⟨f1, f2⟩ := fit_yes hfit
                rw [f1, f2] at KB
                have HHB := hide (show hasB lo hi (sm + val) = false from by unfold hasB; simp; omega)
                have KH := fun w' => has_any lo hi (sm + val) w'
                rw [HHB.out] at KH
                generalize sm + val = sv at *
                clear hfit f1 f2 HHB hin
                go_wp2_with fail
                refine KB.mono ?_
                rintro e w2 ⟨rfl, k12⟩
                have K12 := hide k12
                clear k12 KB hlk hen
                go_wp2_with fail
                refine (KH _).mono ?_
                rintro e w3 ⟨rfl, h3⟩
                have b23 := hide (below1 h3)
                clear h3 KH
                go_wp2_with fail
                go_ret
                exact ⟨by rw [HX.out]; rfl, (kk1.out.trans K12.out (fun j hj q => by have := lN _ q; have := HN.out; omega)).then_below b23.out, fun q => by rw [HX.out] at q; cases q⟩
              · obtain ⟨f1, f2⟩ := fit_no (by simpa using hfit)
                rw [f1, f2] at KB
                clear hfit f1 f2 hin
                go_wp2_with fail
                refine KB.mono ?_
                rintro e w2 ⟨rfl, k12⟩
                have K12 := hide k12
                clear k12 KB hlk hen
                go_wp2_with fail
                go_ret
                exact ⟨by rw [HX.out]; rfl, (kk1.out.trans K12.out (fun j hj q => by have := lN _ q; have := HN.out; omega)).then_below (alloc_below _ _), fun q => by rw [HX.out] at q; cases q⟩
end Go.Proofs.Ytlloppalagddnaa
