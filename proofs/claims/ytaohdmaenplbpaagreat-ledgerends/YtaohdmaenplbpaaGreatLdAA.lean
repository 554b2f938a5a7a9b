import Derived.Test.YtaohdmaenplbpaaGreatLdZ
import Derived.Test.YtaohdmaenplbpaaGreatLdY
set_option linter.all false
namespace Go.Proofs.YtaohdmaenplbpaaGreat
open Go.RowKit Go.QK Quota Go.Maps Go.QM
set_option maxRecDepth 100000
abbrev dV (p : Int × Value × List Int) : Int × Value := (p.1, p.2.1)
set_option maxHeartbeats 8000000 in
theorem copyL_any (lab : Nat → Nat) (B : Nat) (l : Led) (w : World) (h : PL lab B w l) (hlD : l.D.length < 3000000000) : Calls Tryz.prog 21 #[ptr l.lb] w fun e w' => ∃ lab' l', e = .returned (ptr l'.lb) ∧ PL lab' w.heap.size w' l' ∧ l'.ctrs = l.ctrs ∧ l'.helds = l.helds ∧ Below w.heap.size w w' := by
  obtain ⟨N, hN⟩ : ∃ N, N = w.heap.size := ⟨_, rfl⟩
  have KN := newL_any w
  rw [← hN] at KN ⊢
  have HP := hide h
  have HNW := hide hN
  have HLD := hide hlD
  have hlt := h.lt
  have HLT0 := hide (show l.lb < N ∧ l.mc < N ∧ l.mg < N ∧ l.mh < N by rw [hN]; exact ⟨hlt.1, hlt.2.1, hlt.2.2.1, hlt.2.2.2.1⟩)
  clear h hN hlD hlt
  go_enter Tryz.func21, Tryz.ntmps21
  go_wp2_with fail
  refine KN.mono ?_
  rintro e w1 ⟨rfl, pn, b1⟩
  have B1 := hide (show Below N w w1 by have := b1; exact this)
  have SZ1 := hide (show N + 4 ≤ w1.heap.size by have := pn.box.1; simp only [newLed] at this; omega)
  have P1 := hide (HP.out.below (by have := B1.out; rw [HNW.out] at this; exact this))
  have CP1 := hide (show Cp w1 N (w1.heap.size + 1) (fun x => x - N + 2 - (if x = N + 3 then 4 else 0)) (fun _ => (0, 0)) [] from ⟨pn.box, pn.cm, nofun, by have := SZ1.out; omega, nofun, nofun, ⟨pn.l1, pn.l2, pn.l3, pn.l4⟩⟩)
  have GM1 := hide (show AnyAt Tryz.prog 3 w1 (N + 1) [] from pn.gm)
  have HM1 := hide (show AnyAt Tryz.prog 3 w1 (N + 2) [] from pn.hm)
  obtain ⟨k0, -⟩ := P1.out.box.get 0 _ rfl
  have MW := hide (show w1.ownsMap Tryz.prog 3 anyElem l.mc l.K.length (mapE .held (l.K.map eL)) by have q := P1.out.cm; unfold AnyAt at q; rw [List.length_map] at q; exact q)
  have HU := hide ((up_map entV).2 P1.out.upK)
  have HUK := hide P1.out.upK
  have HLK := hide P1.out.lenK
  have HESC := hide P1.out.esc
  have HGT := hide (fun k => getM_mapV entV l.K k)
  clear pn b1 KN
  go_wp2_with (at_range; refine wpList_range_own _ rfl _ 104 rfl 3 110 lawK Tryz.underlying104 _ l.mc _ _ rfl MW.out ?_; intro w0 hrg0 hg0 hs0)
  go_frame
  have bb0 : Below w1.heap.size w1 w0 := (Below.refl _ _).grown hg0 (Nat.le_refl _) (fun j hj => by cases hj)
  have R0 := hide hrg0
  have X0 := hide (And.intro (CP1.out.below bb0) (And.intro (anyAt_below GM1.out bb0) (And.intro (anyAt_below HM1.out bb0) bb0)))
  clear hrg0 hg0 hs0 bb0 k0 MW GM1 HM1 CP1
  go_loopw [14] (fun _ wr => ∃ (left : Lit → Bool) (cnt : Nat) (lab' : Nat → Nat) (A : Int → Nat × Nat), wr.ranges Tryz.prog 3 anyElem l.mc w1.heap.size l.K.length (mapE .held (l.K.map eL)) left cnt ∧ Cp wr N (w1.heap.size + 1) lab' A (metL l.K left) ∧ AnyAt Tryz.prog 3 wr (N + 1) [] ∧ AnyAt Tryz.prog 3 wr (N + 2) [] ∧ Keep (fun z => z = N) w1 wr) (fun _ wr => wr.rangeLeft l.mc w1.heap.size)
  case atStart => exact ⟨_, _, _, _, R0.out, by rw [show metL l.K (Maps.has (mapE (H := Value) .held (l.K.map eL))) = [] from by have := met_none (L := l.K.map eL) (en := DataW.held); rw [metL_map eL (fun _ => rfl) l.K] at this; exact List.map_eq_nil_iff.1 this]; exact X0.out.1, X0.out.2.1, X0.out.2.2.1, Keep.of_below X0.out.2.2.2⟩
  case round =>
    obtain ⟨left, cnt, lab', A, hrg, hcp, hgm, hhm, hkp⟩ := hrel
    have CP := hide hcp
    have GM := hide hgm
    have HM := hide hhm
    have KP := hide hkp
    clear hcp hgm hhm hkp R0 X0
    go_wp2_with (at_next; refine wpList_next_ranges (α := Int) (β := Value) _ rfl _ rfl 3 lawK anyElem (Value.int .i64) id (fun _ _ hk => by obtain ⟨x, e, _⟩ := Maps.keyOf_int_inv Tryz.underlying3 hk; exact ⟨x, e⟩) (fun v _ _ => ⟨v, rfl⟩) l.mc w1.heap.size _ _ _ _ rfl hrg ?_ ?_)
    · intro _ hl0
      have CP2 := hide (show Cp wr N (w1.heap.size + 1) lab' A l.K by have := CP.out; rw [met_all _ _ hl0] at this; exact this)
      clear CP
      have sz1 := SZ1.out
      have lo1 := HLT0.out
      have kps := KP.out.size
      have BW := hide (show Below N w wr from B1.out.trans (KP.out.below (by omega) (fun k hk q => by omega)))
      have PR := hide (show PL lab B wr l from HP.out.below (by have b := BW.out; rw [HNW.out] at b; exact b))
      obtain ⟨d0, -⟩ := CP2.out.box.get 1 _ rfl
      obtain ⟨d1, -⟩ := PR.out.box.get 1 _ rfl
      have hrl := hrg.lt
      have HBR := hide (show N + 4 ≤ wr.heap.size ∧ w1.heap.size + 1 ≤ wr.heap.size by omega)
      have LLB := hide PR.out.lt.1
      clear KP hrg
      go_upto_region 6 with fail
      refine wp_region_held_drew (S := fun wq => wq.cell? ⟨N + 3, 1, none⟩ = some (.map (some (N + 1))) ∧ wq.cell? ⟨l.lb, 1, none⟩ = some (.map (some l.mg))) (by kernel_rfl) ⟨d0, d1⟩ (fun hS => ?_)
      clear d0 d1
      have dr : Below wr.heap.size wr wr.drew := (Below.refl _ _).drew
      have CP5 := hide (CP2.out.below dr)
      have GM5 := hide (anyAt_below GM.out dr)
      have HM5 := hide (anyAt_below HM.out dr)
      have PR5 := hide (PR.out.below dr)
      have BW5 := hide (BW.out.trans (dr.mono (by omega)))
      have HS5 := hide (show N + 4 ≤ wr.drew.heap.size ∧ w1.heap.size + 1 ≤ wr.drew.heap.size from HBR.out)
      clear dr CP2 GM HM PR BW
      refine take_at 0 (some 30) (v := ?_) rfl rfl (by kernel_rfl) (by kernel_rfl) (by kernel_rfl) (fun _ _ _ h => h) ⟨by rfl, ?_⟩ hS ?_
      rotate_left
      · intro wq hSw; go_simp; try rfl
      simp only [Act.put, List.setIfInBounds_toArray, List.set_cons_zero, List.set_cons_succ]
      refine take_at 1 (some 31) (v := ?_) rfl rfl (by kernel_rfl) (by kernel_rfl) (by kernel_rfl) (fun _ _ _ h => h) ⟨by rfl, ?_⟩ hS ?_
      rotate_left
      · intro wq hSw; go_simp; try rfl
      simp only [Act.put, List.setIfInBounds_toArray, List.set_cons_zero, List.set_cons_succ]
      refine take_at 2 (some 32) (v := ?_) rfl rfl (by kernel_rfl) (by kernel_rfl) (by kernel_rfl) (fun _ _ _ h => h) ⟨by rfl, ?_⟩ hS ?_
      rotate_left
      · intro wq hSw; go_simp; try rfl
      simp only [Act.put, List.setIfInBounds_toArray, List.set_cons_zero, List.set_cons_succ]
      refine take_at 3 (some 33) (v := ?_) rfl rfl (by kernel_rfl) (by kernel_rfl) (by kernel_rfl) (fun _ _ _ h => h) ⟨by rfl, ?_⟩ hS ?_
      rotate_left
      · intro wq hSw; obtain ⟨q0, q1⟩ := hSw; go_simp; try rfl
      simp only [Act.put, List.setIfInBounds_toArray, List.set_cons_zero, List.set_cons_succ]
      refine take_at 4 (some 34) (v := ?_) rfl rfl (by kernel_rfl) (by kernel_rfl) (by kernel_rfl) (fun _ _ _ h => h) ⟨by rfl, ?_⟩ hS ?_
      rotate_left
      · intro wq hSw; go_simp; try rfl
      simp only [Act.put, List.setIfInBounds_toArray, List.set_cons_zero, List.set_cons_succ]
      refine take_at 5 (some 35) (v := ?_) rfl rfl (by kernel_rfl) (by kernel_rfl) (by kernel_rfl) (fun _ _ _ h => h) ⟨by rfl, ?_⟩ hS ?_
      rotate_left
      · intro wq hSw; go_simp; try rfl
      simp only [Act.put, List.setIfInBounds_toArray, List.set_cons_zero, List.set_cons_succ]
      refine take_at 6 (some 36) (v := ?_) rfl rfl (by kernel_rfl) (by kernel_rfl) (by kernel_rfl) (fun _ _ _ h => h) ⟨by rfl, ?_⟩ hS ?_
      rotate_left
      · intro wq hSw; go_simp; try rfl
      simp only [Act.put, List.setIfInBounds_toArray, List.set_cons_zero, List.set_cons_succ]
      refine take_at 7 (some 37) (v := ?_) rfl rfl (by kernel_rfl) (by kernel_rfl) (by kernel_rfl) (fun _ _ _ h => h) ⟨by rfl, ?_⟩ hS ?_
      rotate_left
      · intro wq hSw; obtain ⟨q0, q1⟩ := hSw; go_simp; try rfl
      simp only [Act.put, List.setIfInBounds_toArray, List.set_cons_zero, List.set_cons_succ]
      clear hS
      generalize wr.drew = x0 at *
      refine wpAnyH_ready (rs := [8]) (by kernel_rfl) (by simp) ?_
      refine AllReadyH.cons rfl (fun K hK => ?_) AllReadyH.nil
      go_simp
      go_wp2_with fail
      refine (mcopy_any (N + 1) l.mg l.G _ PR5.out.gup (by omega) GM5.out PR5.out.gm (by have := PR5.out.lenG; omega)).mono ?_
      rintro e x1 ⟨rfl, gm9, kk⟩
      have GM6 := hide gm9
      have CP6 := hide (CP5.out.keep kk (by omega) (by omega) (fun z hz q => by omega))
      have HM6 := hide (anyAt_keep HM5.out kk (by omega))
      have hs5 := HS5.out
      have BW6 := hide (BW5.out.trans (kk.below (by omega) (fun z hz q => by omega)))
      have PR6 := hide (show PL lab B x1 l from HP.out.below (by have b := BW6.out; rw [HNW.out] at b; exact b))
      have HS6 := hide (show N + 4 ≤ x1.heap.size ∧ w1.heap.size + 1 ≤ x1.heap.size by have := kk.size; omega)
      clear gm9 kk CP5 GM5 HM5 BW5 PR5 HS5 hs5
      go_wp2_with fail
      refine hK.out _ _ ⟨(CP6.out.box.get 1 _ rfl).1, (PR6.out.box.get 1 _ rfl).1⟩ (fun hS => ?_)
      clear hK K hS
      (try simp only [Act.put, List.setIfInBounds_toArray, List.set_cons_zero, List.set_cons_succ])
      refine wpAnyH_done (by kernel_rfl) ?_ _
      obtain ⟨k2, -⟩ := PR6.out.box.get 2 _ rfl
      have MW := hide (show x1.ownsMap Tryz.prog 3 anyElem l.mh l.D.length (mapE .held (l.D.map dV)) by have q := PR6.out.hm; unfold AnyAt at q; rw [List.length_map] at q; exact q)
      have HUD := hide (show Up l.D by have q := PR6.out.hok.up; exact (up_map (fun (x : Value × List Int) => x.2)).1 q)
      have HUV := hide (show Up (l.D.map dV) from (up_map (fun (x : Value × List Int) => x.1)).2 HUD.out)
      have HGD := hide (fun k => getM_mapV (fun (x : Value × List Int) => x.1) l.D k)
      have LMH := hide (show l.mh < N by omega)
      clear HU HGT HESC HLK HUK LLB HBR
      go_wp2_with (at_range; refine wpList_range_own _ rfl _ 106 rfl 3 117 lawK Tryz.underlying106 _ l.mh _ _ rfl MW.out ?_; intro wi hrg0 hg0 hs0)
      go_frame
      have ki : Below x1.heap.size x1 wi := (Below.refl _ _).grown hg0 (Nat.le_refl _) (fun j hj => by cases hj)
      have R0 := hide hrg0
      have X0 := hide (And.intro (anyAt_below HM6.out ki) ki)
      clear hrg0 hg0 hs0 ki k2 MW
      go_loopw [44] (fun _ ws => ∃ (left : Lit → Bool) (cnt : Nat) (lb2 : Nat → Nat) (V : Int → Value), ws.ranges Tryz.prog 3 anyElem l.mh x1.heap.size l.D.length (mapE .held (l.D.map dV)) left cnt ∧ Cd ws N (x1.heap.size + 1) lb2 V (metL l.D left) ∧ (∀ z, z < x1.heap.size → lb2 z = lab' z) ∧ Keep (fun z => z = N + 2) x1 ws) (fun _ ws => ws.rangeLeft l.mh x1.heap.size)
      case atStart => exact ⟨_, _, lab', fun _ => undef, R0.out, by rw [show metL l.D (Maps.has (mapE (H := Value) .held (l.D.map dV))) = [] from by have := met_none (L := l.D.map dV) (en := DataW.held); rw [metL_map dV (fun _ => rfl) l.D] at this; exact List.map_eq_nil_iff.1 this]; exact ⟨X0.out.1, nofun⟩, fun z _ => rfl, Keep.of_below X0.out.2⟩
      case round =>
        obtain ⟨left2, cnt2, lb2, V, hrg, hcd, hlb, hkp⟩ := hrel
        have CD := hide hcd
        have LBB := hide hlb
        have KP := hide hkp
        clear hcd hlb hkp R0 X0
        go_wp2_with (at_next; refine wpList_next_ranges (α := Int) (β := Value) _ rfl _ rfl 3 lawK anyElem (Value.int .i64) id (fun _ _ hk => by obtain ⟨x, e, _⟩ := Maps.keyOf_int_inv Tryz.underlying3 hk; exact ⟨x, e⟩) (fun v _ _ => ⟨v, rfl⟩) l.mh x1.heap.size _ _ _ _ rfl hrg ?_ ?_)
        · intro _ hl0
          have CD2 := CD.out
          rw [met_all _ _ hl0] at CD2
          have f4 := CP6.out.f4
          have CPF := (CP6.out.relab (lab' := lb2) HS6.out.2 LBB.out).keep KP.out (by omega) (by omega) (fun z hz q => by omega)
          have PF := hide (copied_PL HP.out CPF (anyAt_keep GM6.out KP.out (by omega)) CD2)
          have hs6 := HS6.out
          have BF := hide (BW6.out.trans (KP.out.below (by omega) (fun z hz q => by omega)))
          clear CD2 CPF
          go_wp2_with fail
          go_ret
          exact ⟨lb2, l.copied N A V, rfl, PF.out, copied_ctrs _ _ _ _, copied_helds _ _ _ _, BF.out⟩
        · intro x c kl y1 y2 w2 cnt3 hkx hlx hRc hRd hat hrg2 hlt hg2 hs2 hen
          have hkx' := hkx
          obtain ⟨x', ex, rfl, hwx⟩ := Maps.keyOf_int_inv Tryz.underlying3 hkx
          injection ex with _ ex
          subst ex
          subst hRc hRd
          obtain ⟨c', hc', hd', -⟩ := visitE (en := DataW.held (H := Value)) HUV.out left2 hlx hat
          have ec : c = c' := by injection hd'
          subst ec
          have hgt := HGD.out x
          obtain ⟨ds, hgy⟩ : ∃ (ds : List Int), getM l.D x = some (c, ds) := by
            rw [hgt] at hc'
            cases hg : getM l.D x with
            | none => rw [hg] at hc'; cases hc'
            | some y => rw [hg] at hc'; have e : y.1 = c := Option.some.inj hc'; exact ⟨y.2, by rw [← e]⟩
          have k2 : Keep (fun z => z = x1.heap.size) wr w2 := (Keep.refl (fun z => z = x1.heap.size) wr).grown hg2 (by rintro g ⟨⟩ _; rfl)
          have hs6 := HS6.out
          have hkps := KP.out.size
          have hrl2 := hrg.lt
          have BW2 := hide (show Below N w w2 from (BW6.out.trans (KP.out.below (by omega) (fun k hk q => by omega))).trans (k2.below (by omega) (fun k hk q => by omega)))
          have CD2 := hide (show Cd w2 N (x1.heap.size + 1) lb2 V (metL l.D left2) from ⟨anyAt_keep CD.out.hm k2 (by omega), fun p hp => ⟨(CD.out.own p hp).1.keep k2 (fun g hg q => by have := ((CD.out.own p hp).2.2 g hg).1; omega), (CD.out.own p hp).2⟩⟩)
          have KP2 := hide (KP.out.trans k2 (fun k hk q => by omega))
          have hs2' : x1.heap.size + 1 ≤ w2.heap.size := by have := hg2.size; omega
          have hlI : ds.length ≤ 1048576 := by
            have q := HP.out.lenI x
            have e : getM l.helds x = (getM l.D x).map Prod.snd := getM_map (fun (x : Value × List Int) => x.2) l.D x
            unfold idsOf at q
            rw [e, hgy] at q
            exact q
          have hown := HP.out.own (x, c, ds) (getM_mem hgy)
          obtain ⟨aD, cD, hdv, seen, han, hlc, -⟩ := hown.1.seen
          simp only at hdv seen hlc
          have haS : aD.isSome = true := by
            have q := hown.2
            simp only at q
            rw [hdv] at q
            cases aD with
            | none => exact absurd rfl q
            | some ad => rfl
          subst hdv
          have G2 := hide hrg2
          have HLT := hide hlt
          have HGY := hide (And.intro hgy hlx)
          have HKX := hide hkx'
          have SEEN := hide seen
          have HAN := hide (And.intro hlc (And.intro han haS))
          obtain ⟨nD, hnD⟩ : ∃ nD, nD = ds.length := ⟨_, rfl⟩
          have KCL := hide (fun w' (h : Go.QK.Seen .i64 w' aD ds) => cloneI_any aD ds cD w' h hlc han (by omega))
          rw [← hnD] at hen KCL
          clear hs2 hc' hd' hat hlx hkx hkx' hwx hgt hgy hlt hg2 k2 hrg2 CD KP hown seen han hlc haS hnD
          go_upto_region 10 with fail
          obtain ⟨d0, -⟩ := (show Cells w2 (N + 3) [.map (some N), .map (some (N + 1)), .map (some (N + 2))] from by have q := CP6.out.box.keep KP2.out (by omega); exact q).get 2 _ rfl
          have dr : Below w2.heap.size w2 w2.drew := (Below.refl _ _).drew
          have CD5 := hide (CD2.out.below dr)
          have BW5 := hide (BW2.out.trans (dr.mono (show N ≤ w2.heap.size by omega)))
          have KP5 := hide (KP2.out.then_below dr)
          have G5 := hide (ranges_keep G2.out (Keep.of_below (S := fun _ => False) dr) id id)
          have HS5 := hide (show x1.heap.size + 1 ≤ w2.drew.heap.size from hs2')
          refine wp_region_held_drew (S := fun wq => wq.cell? ⟨N + 3, 2, none⟩ = some (.map (some (N + 2)))) (by kernel_rfl) d0 (fun hS => ?_)
          clear d0 dr CD2 BW2 KP2 G2 hs2'
          refine take_at 0 (some 49) (v := ?_) rfl rfl (by kernel_rfl) (by kernel_rfl) (by kernel_rfl) (fun _ _ _ h => h) ⟨by rfl, ?_⟩ hS ?_
          rotate_left
          · intro wq hSw; go_simp; try rfl
          simp only [Act.put, List.setIfInBounds_toArray, List.set_cons_zero, List.set_cons_succ]
          refine take_at 1 (some 50) (v := ?_) rfl rfl (by kernel_rfl) (by kernel_rfl) (by kernel_rfl) (fun _ _ _ h => h) ⟨by rfl, ?_⟩ hS ?_
          rotate_left
          · intro wq hSw; go_simp; try rfl
          simp only [Act.put, List.setIfInBounds_toArray, List.set_cons_zero, List.set_cons_succ]
          refine take_at 2 (some 51) (v := ?_) rfl rfl (by kernel_rfl) (by kernel_rfl) (by kernel_rfl) (fun _ _ _ h => h) ⟨by rfl, ?_⟩ hS ?_
          rotate_left
          · intro wq hSw; go_simp; try rfl
          simp only [Act.put, List.setIfInBounds_toArray, List.set_cons_zero, List.set_cons_succ]
          refine take_at 3 (some 52) (v := ?_) rfl rfl (by kernel_rfl) (by kernel_rfl) (by kernel_rfl) (fun _ _ _ h => h) ⟨by rfl, ?_⟩ hS ?_
          rotate_left
          · intro wq hSw; go_simp; try rfl
          simp only [Act.put, List.setIfInBounds_toArray, List.set_cons_zero, List.set_cons_succ]
          refine take_at 4 (some 53) (v := ?_) rfl rfl (by kernel_rfl) (by kernel_rfl) (by kernel_rfl) (fun _ _ _ h => h) ⟨by rfl, ?_⟩ hS ?_
          rotate_left
          · intro wq hSw; go_simp; try rfl
          simp only [Act.put, List.setIfInBounds_toArray, List.set_cons_zero, List.set_cons_succ]
          refine take_at 5 (some 54) (v := ?_) rfl rfl (by kernel_rfl) (by kernel_rfl) (by kernel_rfl) (fun _ _ _ h => h) ⟨by rfl, ?_⟩ hS ?_
          rotate_left
          · intro wq hSw; go_simp; try rfl
          simp only [Act.put, List.setIfInBounds_toArray, List.set_cons_zero, List.set_cons_succ]
          clear hS
          generalize w2.drew = x0 at *
          refine wpAnyH_ready (rs := [6]) (by kernel_rfl) (by simp) ?_
          refine AllReadyH.cons rfl (fun K hK => ?_) AllReadyH.nil
          go_simp
          go_wp2_with fail
          refine (KCL.out _ (SEEN.out.below (by have b := BW5.out; rw [HNW.out] at b; exact b))).mono ?_
          rintro e x4 ⟨v9, rfl, ow9, is9, hh⟩
          have OW9 := hide ow9
          have NB9 := hide (show v9.ownBlock ≠ none from fun q => by rw [q, HAN.out.2.2] at is9; cases is9)
          have HH := hide hh
          have KP6 := hide (KP5.out.then_below hh)
          have CD6 := hide (CD5.out.below hh)
          clear ow9 is9 hh
          go_wp2_with fail
          refine hK.out _ _ ((CP6.out.box.keep KP6.out (by omega)).get 2 _ rfl).1 (fun hS => ?_)
          clear hK K hS
          (try simp only [Act.put, List.setIfInBounds_toArray, List.set_cons_zero, List.set_cons_succ])
          have hup : Up ((metL l.D left2).map (fun p => (p.1, V p.1))) := by unfold Up; rw [List.pairwise_map]; exact List.Pairwise.filter _ HUD.out
          have hlen : ((metL l.D left2).map (fun p => (p.1, V p.1))).length < 4000000000 := by rw [List.length_map]; have h1 : (metL l.D left2).length ≤ l.D.length := List.length_filter_le _ _; have h2 := HLD.out; omega
          obtain ⟨w5, hrun, hhm, hg5⟩ := any_upd lawK Tryz.underlying106 CD6.out.hm hup HKX.out hlen v9
          have kk : Keep (fun z => z = N + 2) x4 w5 := (Keep.refl (fun z => z = N + 2) x4).grown hg5 (by rintro g ⟨⟩ _; rfl)
          have CD9 := hide (Cd.more CD5.out HUD.out HGY.out.1 HGY.out.2 OW9.out NB9.out HH.out (by omega) HS5.out hhm kk)
          have HRUN := hide hrun
          have lmh := LMH.out
          have G9 := hide (ranges_keep (ranges_keep G5.out (Keep.of_below (S := fun _ => False) HH.out) id id) kk (by omega) (by omega))
          have KP9 := hide (KP6.out.trans kk (fun k hk q => q))
          have LB9 := hide (show ∀ z, z < x1.heap.size → (if z < x0.heap.size then lb2 z else 11 + 2 * x.toNat) = lab' z from fun z hz => by have := HS5.out; rw [if_pos (by omega)]; exact LBB.out z hz)
          obtain ⟨a9, n9, c9, hv9⟩ : ∃ a n c, v9 = .slice a n c := by obtain ⟨a, c, e, -⟩ := OW9.out.seen; exact ⟨_, _, _, e⟩
          subst hv9
          clear hup hlen hrun hhm hg5 kk CD5 CD6 G5 KP5 KP6 HH OW9 NB9
          refine wpAnyH_ready (rs := [7]) (by kernel_rfl) (by simp) ?_
          refine AllReadyH.cons rfl (fun K hK => ?_) AllReadyH.nil
          refine wp_upd (.tmp 52) (.tmp 53) (.tmp 55) rfl rfl rfl rfl rfl HRUN.out ?_
          refine hK.out _ _ ((CP6.out.box.keep KP9.out (by omega)).get 2 _ rfl).1 (fun hS => ?_)
          clear hK K hS
          (try simp only [Act.put])
          refine wpAnyH_done (by kernel_rfl) ?_ _
          go_wp2_with fail
          go_roundw
          case rel => exact ⟨_, cnt3, _, _, G9.out, CD9.out, LB9.out, KP9.out⟩
          case measure => rw [G9.out.left_eq, hrg.left_eq]; exact HLT.out
    · intro x c kl y1 y2 w2 cnt2 hkx hlx hRc hRd hat hrg2 hlt hg2 hs2 hen
      have hkx' := hkx
      obtain ⟨x', ex, rfl, hwx⟩ := Maps.keyOf_int_inv Tryz.underlying3 hkx
      injection ex with _ ex
      subst ex
      subst hRc hRd
      obtain ⟨c', hc', hd', -⟩ := visitE (en := DataW.held (H := Value)) HU.out left hlx hat
      have ec : c = c' := by injection hd'
      subst ec
      have hgt := HGT.out x
      obtain ⟨y, hy, hgy⟩ : ∃ y : Lm, c = entV y ∧ getM l.K x = some y := by
        rw [hgt] at hc'
        cases hg : getM l.K x with
        | none => rw [hg] at hc'; cases hc'
        | some y => rw [hg] at hc'; exact ⟨y, (Option.some.inj hc').symm, rfl⟩
      subst hy
      have k2 : Keep (fun z => z = w1.heap.size) wr w2 := (Keep.refl (fun z => z = w1.heap.size) wr).grown hg2 (by rintro g ⟨⟩ _; rfl)
      have hsz := SZ1.out
      have hlow := HLT0.out
      have hkps := KP.out.size
      have hrl := hrg.lt
      have CP2 := hide (CP.out.keep k2 (by omega) (by omega) (fun z hz q => by omega))
      have GM2 := hide (anyAt_keep GM.out k2 (by omega))
      have HM2 := hide (anyAt_keep HM.out k2 (by omega))
      have BW2 := hide (show Below N w w2 from (B1.out.trans (KP.out.below (by omega) (fun k hk q => by omega))).trans (k2.below (by omega) (fun k hk q => by omega)))
      have KP2 := hide (KP.out.trans k2 (fun k hk q => by omega))
      have G2 := hide hrg2
      have HLT := hide hlt
      have HGY := hide (And.intro hgy hlx)
      have HKX := hide hkx'
      have hs2' : w1.heap.size + 1 ≤ w2.heap.size := by have := hg2.size; omega
      simp only [entV] at hen
      clear hs2 hc' hd' hat hlx hkx hkx' hwx hgt hgy hlt hg2 k2 hrg2 CP GM HM KP
      go_upto_region 5 with fail
      refine named (P := Code.wp _ _ _ _) ?_
      intro w4 hw4
      obtain ⟨b5, hb5⟩ : ∃ b5, b5 = w2.heap.size := ⟨_, rfl⟩
      rw [← hb5]
      have al : Below w2.heap.size w2 w4 := by rw [hw4]; exact alloc_below _ _
      have dr : Below w4.heap.size w4 w4.drew := (Below.refl _ _).drew
      have ad : Below w2.heap.size w2 w4.drew := al.trans (dr.mono al.size)
      have C4 := (show Cells w4 b5 [.int .i64 y.c.grp, ptr y.b] by rw [hw4, hb5]; exact Cells.new _ _ _)
      have B5L : N + 4 ≤ b5 := by omega
      obtain ⟨d0, -⟩ := C4.get 0 _ rfl
      obtain ⟨d1, -⟩ := C4.get 1 _ rfl
      obtain ⟨d3, -⟩ := (CP2.out.below al).box.get 0 _ rfl
      have C5 := hide (C4.below dr)
      have CP5 := hide (CP2.out.below ad)
      have GM5 := hide (anyAt_below GM2.out ad)
      have HM5 := hide (anyAt_below HM2.out ad)
      have BW5 := hide (BW2.out.trans (ad.mono (show N ≤ w2.heap.size by omega)))
      have KP5 := hide (KP2.out.then_below ad)
      have G5 := hide (ranges_keep G2.out (Keep.of_below (S := fun _ => False) ad) id id)
      have HS5 := hide (show w1.heap.size + 1 ≤ w4.drew.heap.size by have := ad.size; omega)
      clear hw4 hb5 al dr ad C4 CP2 GM2 HM2 BW2 KP2 G2
      refine wp_region_held_drew (S := fun wq => wq.cell? ⟨N + 3, 0, none⟩ = some (.map (some N)) ∧ wq.cell? ⟨b5, 0, none⟩ = some (.int .i64 y.c.grp) ∧ wq.cell? ⟨b5, 1, none⟩ = some (ptr y.b)) (by kernel_rfl) ⟨d3, d0, d1⟩ (fun hS => ?_)
      clear d0 d1 d3
      refine take_at 0 (some 19) (v := ?_) rfl rfl (by kernel_rfl) (by kernel_rfl) (by kernel_rfl) (fun _ _ _ h => h) ⟨by rfl, ?_⟩ hS ?_
      rotate_left
      · intro wq hSw; go_simp; try rfl
      simp only [Act.put, List.setIfInBounds_toArray, List.set_cons_zero, List.set_cons_succ]
      refine take_at 1 (some 20) (v := ?_) rfl rfl (by kernel_rfl) (by kernel_rfl) (by kernel_rfl) (fun _ _ _ h => h) ⟨by rfl, ?_⟩ hS ?_
      rotate_left
      · intro wq hSw; go_simp; try rfl
      simp only [Act.put, List.setIfInBounds_toArray, List.set_cons_zero, List.set_cons_succ]
      refine take_at 2 (some 21) (v := ?_) rfl rfl (by kernel_rfl) (by kernel_rfl) (by kernel_rfl) (fun _ _ _ h => h) ⟨by rfl, ?_⟩ hS ?_
      rotate_left
      · intro wq hSw; go_simp; try rfl
      simp only [Act.put, List.setIfInBounds_toArray, List.set_cons_zero, List.set_cons_succ]
      refine take_at 3 (some 22) (v := ?_) rfl rfl (by kernel_rfl) (by kernel_rfl) (by kernel_rfl) (fun _ _ _ h => h) ⟨by rfl, ?_⟩ hS ?_
      rotate_left
      · intro wq hSw; obtain ⟨q3, q0, q1⟩ := hSw; go_simp; try rfl
      simp only [Act.put, List.setIfInBounds_toArray, List.set_cons_zero, List.set_cons_succ]
      refine take_at 4 (some 23) (v := ?_) rfl rfl (by kernel_rfl) (by kernel_rfl) (by kernel_rfl) (fun _ _ _ h => h) ⟨by rfl, ?_⟩ hS ?_
      rotate_left
      · intro wq hSw; go_simp; try rfl
      simp only [Act.put, List.setIfInBounds_toArray, List.set_cons_zero, List.set_cons_succ]
      refine take_at 5 (some 24) (v := ?_) rfl rfl (by kernel_rfl) (by kernel_rfl) (by kernel_rfl) (fun _ _ _ h => h) ⟨by rfl, ?_⟩ hS ?_
      rotate_left
      · intro wq hSw; go_simp; try rfl
      simp only [Act.put, List.setIfInBounds_toArray, List.set_cons_zero, List.set_cons_succ]
      refine take_at 6 (some 25) (v := ?_) rfl rfl (by kernel_rfl) (by kernel_rfl) (by kernel_rfl) (fun _ _ _ h => h) ⟨by rfl, ?_⟩ hS ?_
      rotate_left
      · intro wq hSw; obtain ⟨q3, q0, q1⟩ := hSw; go_simp; try rfl
      simp only [Act.put, List.setIfInBounds_toArray, List.set_cons_zero, List.set_cons_succ]
      refine take_at 7 (some 26) (v := ?_) rfl rfl (by kernel_rfl) (by kernel_rfl) (by kernel_rfl) (fun _ _ _ h => h) ⟨by rfl, ?_⟩ hS ?_
      rotate_left
      · intro wq hSw; go_simp; try rfl
      simp only [Act.put, List.setIfInBounds_toArray, List.set_cons_zero, List.set_cons_succ]
      refine take_at 8 (some 27) (v := ?_) rfl rfl (by kernel_rfl) (by kernel_rfl) (by kernel_rfl) (fun _ _ _ h => h) ⟨by rfl, ?_⟩ hS ?_
      rotate_left
      · intro wq hSw; obtain ⟨q3, q0, q1⟩ := hSw; go_simp; try rfl
      simp only [Act.put, List.setIfInBounds_toArray, List.set_cons_zero, List.set_cons_succ]
      clear hS
      generalize w4.drew = x0 at *
      refine wpAnyH_ready (rs := [9]) (by kernel_rfl) (by simp) ?_
      refine AllReadyH.cons rfl (fun K hK => ?_) AllReadyH.nil
      go_simp
      go_wp2_with fail
      refine (copy_any y.b y.m y.c.e _ (by have q := HP.out.esc (x, y) (getM_mem HGY.out.1); have b := BW5.out; rw [HNW.out] at b; exact q.below b)).mono ?_
      rintro e x1 ⟨b9, m9, rfl, pe9, lb9, lm9, hh⟩
      have PE9 := hide pe9
      have LB9 := hide (And.intro lb9 lm9)
      have HH := hide hh
      have C6 := hide (C5.out.below hh)
      have CP6 := hide (CP5.out.below hh)
      clear pe9 lb9 lm9 hh
      go_wp2_with fail
      refine hK.out _ _ ⟨(CP6.out.box.get 0 _ rfl).1, (C6.out.get 0 _ rfl).1, (C6.out.get 1 _ rfl).1⟩ (fun hS => ?_)
      clear hK K
      (try simp only [Act.put, List.setIfInBounds_toArray, List.set_cons_zero, List.set_cons_succ])
      refine take_at 10 (some 29) (v := ?_) rfl rfl (by kernel_rfl) (by kernel_rfl) (by kernel_rfl) (fun _ _ _ h => h) ⟨by rfl, ?_⟩ hS ?_
      rotate_left
      · intro wq hSw; go_simp; try rfl
      simp only [Act.put, List.setIfInBounds_toArray, List.set_cons_zero, List.set_cons_succ]
      clear hS
      have hup : Up ((metL l.K left).map (fun p => eK (reA A p))) := by unfold Up; rw [List.pairwise_map]; exact List.Pairwise.filter _ HUK.out
      have hlen : ((metL l.K left).map (fun p => eK (reA A p))).length < 4000000000 := by rw [List.length_map]; have h1 : (metL l.K left).length ≤ l.K.length := List.length_filter_le _ _; have h2 := HLK.out; omega
      obtain ⟨w5, hrun, hcm, hg5⟩ := any_upd lawK Tryz.underlying104 CP6.out.cm hup HKX.out hlen (entV ⟨y.c, b9, m9⟩)
      have kk : Keep (fun z => z = N) x1 w5 := (Keep.refl (fun z => z = N) x1).grown hg5 (by rintro g ⟨⟩ _; rfl)
      obtain ⟨lab9, A9, cp9⟩ := Cp.more CP5.out HUK.out HGY.out.1 HGY.out.2 PE9.out LB9.out.1 LB9.out.2 HH.out HS5.out hcm kk
      have HRUN := hide hrun
      have CP9 := hide cp9
      have lo9 := HLT0.out
      have sz9 := SZ1.out
      have GM9 := hide (anyAt_keep (anyAt_below GM5.out HH.out) kk (by omega))
      have HM9 := hide (anyAt_keep (anyAt_below HM5.out HH.out) kk (by omega))
      have G9 := hide (ranges_keep (ranges_keep G5.out (Keep.of_below (S := fun _ => False) HH.out) id id) kk (by omega) (by omega))
      have KP9 := hide ((KP5.out.then_below HH.out).trans kk (fun k hk q => q))
      have C9 := hide (C6.out.keep kk (by omega))
      clear hup hlen hrun hcm hg5 kk cp9 CP5 CP6 GM5 HM5 G5 KP5 C5 C6 HH PE9 LB9
      refine wpAnyH_ready (rs := [11]) (by kernel_rfl) (by simp) ?_
      refine AllReadyH.cons rfl (fun K hK => ?_) AllReadyH.nil
      refine wp_upd (.tmp 22) (.tmp 23) (.tmp 29) rfl rfl rfl rfl rfl HRUN.out ?_
      refine hK.out _ _ ⟨(CP9.out.box.get 0 _ rfl).1, (C9.out.get 0 _ rfl).1, (C9.out.get 1 _ rfl).1⟩ (fun hS => ?_)
      clear hK K hS
      (try simp only [Act.put])
      refine wpAnyH_done (by kernel_rfl) ?_ _
      go_wp2_with fail
      go_roundw
      case rel => exact ⟨_, cnt2, lab9, A9, G9.out, CP9.out, GM9.out, HM9.out, KP9.out⟩
      case measure => rw [G9.out.left_eq, hrg.left_eq]; exact HLT.out
end Go.Proofs.YtaohdmaenplbpaaGreat
