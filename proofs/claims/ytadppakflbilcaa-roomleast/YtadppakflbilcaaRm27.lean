import Derived.Test.YtadppakflbilcaaRm26
namespace Go.Proofs.Ytadppakflbilcaa
open Go.RowKit Go.QK Go.Maps Go.QM Go.QR
set_option maxRecDepth 100000
theorem prom_take {L : List Tx} {k : Nat} (h : k < L.length) : prom (L.take (k + 1)) = prom (L.take k) + L[k].owes := by
  rw [List.take_succ_eq_append_getElem h, prom_append]
  simp [prom]
theorem prom_take_le {L : List Tx} (k : Nat) : 0 ≤ prom (L.take k) ∧ prom (L.take k) ≤ prom L := by
  have e := prom_append (L.take k) (L.drop k)
  rw [List.take_append_drop] at e
  have := prom_nonneg (L.drop k)
  have := prom_nonneg (L.take k)
  omega
theorem get_del (L : List Tx) (n : Int) : get (del L n) n = none := by
  unfold QR.get
  rw [List.find?_eq_none]
  intro t ht
  have := (mem_del ht).2
  simpa using this
/-- Is the first one gone? -/
theorem gone_or {L L' : List Tx} {n how : Int} {t : Tx} (h0 : L[0]? = some t) (hn : t.n = n) (h : Ended L L' n how) : (get L' n = none ∧ ∀ u, L'[0]? = some u → u.n ≠ n) ∨ (∃ u, L'[0]? = some u ∧ u.n = n) := by
  rcases h.form with rfl | ⟨f, hf, rfl⟩
  · refine .inl ⟨get_del L n, fun u hu => (mem_del (List.mem_of_getElem? hu)).2⟩
  · refine .inr ⟨f t, ?_, by rw [hf]; exact hn⟩
    unfold upd
    rw [List.getElem?_map, h0]
    simp [hn]
set_option maxHeartbeats 8000000 in
theorem law_least (xs : List OpX) (sa : Option Addr) (sc : Nat) (w : World) (hL : Lies w sa (rowsC OpX.cs xs)) (hok : ∀ o ∈ xs, o.Ok) : Calls Try.prog 7 #[.slice sa xs.length sc] w fun e w' => e = .returned (.bool true) ∧ Below w.heap.size w w' := by
  have K15 := grown_any xs sa sc w hL hok
  have pe := ptr_eql
  clear hL hok
  go_enter Try.func7, Try.ntmps7
  go_wp2_with fail
  refine K15.mono ?_
  rintro e w1 ⟨p, b, U, L, rfl, D1, u1, b1⟩
  clear K15
  have K9 := awake_any w1
  go_wp2_with fail
  refine K9.mono ?_
  rintro e w2 ⟨rfl, b2⟩
  have HT := hide ((show Kept w w1 U p b L from ⟨D1, u1, b1⟩).below b2)
  clear K9 D1 b1 b2 u1
  have OKL := hide HT.out.duo.ok
  have few := OKL.out.few
  have hpr := OKL.out.prom
  go_upto_region 6 with fail
  go_loopw [5, 6] (fun va vi wr => ∃ k : Nat, vi = .int .i64 (k : Int) ∧ va = .int .i64 (prom (L.take k)) ∧ k ≤ L.length ∧ Below w2.heap.size w2 wr) (fun _ vi _ => L.length - (intOf vi).toNat)
  case atStart => exact ⟨0, rfl, rfl, Nat.zero_le _, Below.refl _ _⟩
  case round =>
    obtain ⟨k, rfl, rfl, hk, hb⟩ := hrel
    have HT2 := hide (HT.out.below hb)
    have D1 := hide HT2.out.duo
    have HB2 := hide hb
    clear hb
    obtain ⟨S2, R2, -⟩ := D1.out.ref
    obtain ⟨v, P, hL, e⟩ := R2
    have hlen := map_len e
    obtain ⟨a, cap, rfl, -⟩ := hL.form
    obtain ⟨k0, -⟩ := hL.box.get 0 _ rfl
    rw [hlen] at k0
    clear hlen
    by_cases hlt : k < L.length
    · obtain ⟨vk, hpk⟩ := map_at e (List.getElem?_eq_getElem hlt)
      have tok := OKL.out.each _ (List.getElem_mem hlt)
      have hx := tx_i64 tok
      have OF := hide (show of L L[k].n = L[k].owes by unfold of; rw [get_of_mem OKL.out.nd (List.getElem_mem hlt)])
      obtain ⟨a2, c2, rfl, -⟩ := hL.blist hpk
      obtain ⟨g0, cap0, ev0, -⟩ := hL.bookAt hpk
      cases ev0
      have HLL := hide hL
      have HPK := hide hpk
      have HLN := hide (map_len e)
      have TOK := hide tok
      have hs := prom_take hlt
      have hs1 := prom_take_le (L := L) (k + 1)
      have hs0 := prom_take_le (L := L) k
      have hw : wrap64 (prom (L.take k) + L[k].owes) = prom (L.take k) + L[k].owes := wrapI (by unfold I64; omega)
      have ES := hide (show prom (L.take k) + L[k].owes = prom (L.take (k + 1)) from hs.symm)
      clear hL hpk e tok hs
      generalize L[k] = t at *
      generalize prom (L.take k) = s0 at *
      go_upto_region 8 with fail
      refine wp_region_held_drew (S := fun wq => Below wr.heap.size wr wq) (by kernel_rfl) (Below.refl _ _).drew (fun hS => ?_)
      refine take_at 0 (some 31) (v := ?_) rfl rfl (by kernel_rfl) (by kernel_rfl) (by kernel_rfl) (fun _ _ _ h => h) ⟨by rfl, ?_⟩ hS ?_
      rotate_left
      · intro wq hSw; go_simp; try rfl
      simp only [Act.put, List.setIfInBounds_toArray, List.set_cons_zero, List.set_cons_succ]
      refine take_at 1 (some 32) (v := ?_) rfl rfl (by kernel_rfl) (by kernel_rfl) (by kernel_rfl) (fun _ _ _ h => h) ⟨by rfl, ?_⟩ hS ?_
      rotate_left
      · intro wq hSw; go_simp; try rfl
      simp only [Act.put, List.setIfInBounds_toArray, List.set_cons_zero, List.set_cons_succ]
      refine take_at 2 (some 33) (v := ?_) rfl rfl (by kernel_rfl) (by kernel_rfl) (by kernel_rfl) (fun _ _ _ h => h) ⟨by rfl, ?_⟩ hS ?_
      rotate_left
      · intro wq hSw; go_simp; try rfl
      simp only [Act.put, List.setIfInBounds_toArray, List.set_cons_zero, List.set_cons_succ]
      refine take_at 3 (some 34) (v := ?_) rfl rfl (by kernel_rfl) (by kernel_rfl) (by kernel_rfl) (fun _ _ _ h => h) ⟨by rfl, ?_⟩ hS ?_
      rotate_left
      · intro wq hSw; go_simp; try rfl
      simp only [Act.put, List.setIfInBounds_toArray, List.set_cons_zero, List.set_cons_succ]
      refine take_at 4 (some 35) (v := ?_) rfl rfl (by kernel_rfl) (by kernel_rfl) (by kernel_rfl) (fun _ _ _ h => h) ⟨by rfl, ?_⟩ hS ?_
      rotate_left
      · intro wq hSw; have q := ((HLL.out.below hSw).box.get 0 _ rfl).1; rw [HLN.out] at q; go_simp; try rfl
      simp only [Act.put, List.setIfInBounds_toArray, List.set_cons_zero, List.set_cons_succ]
      refine take_at 5 (some 36) (v := ?_) rfl rfl (by kernel_rfl) (by kernel_rfl) (by kernel_rfl) (fun _ _ _ h => h) ⟨by rfl, ?_⟩ hS ?_
      rotate_left
      · intro wq hSw; go_simp; try rfl
      simp only [Act.put, List.setIfInBounds_toArray, List.set_cons_zero, List.set_cons_succ]
      refine take_at 6 (some 37) (v := ?_) rfl rfl (by kernel_rfl) (by kernel_rfl) (by kernel_rfl) (fun _ _ _ h => h) ⟨by rfl, ?_⟩ hS ?_
      rotate_left
      · intro wq hSw; go_simp; try rfl
      simp only [Act.put, List.setIfInBounds_toArray, List.set_cons_zero, List.set_cons_succ]
      refine take_at 7 (some 38) (v := ?_) rfl rfl (by kernel_rfl) (by kernel_rfl) (by kernel_rfl) (fun _ _ _ h => h) ⟨by rfl, ?_⟩ hS ?_
      rotate_left
      · intro wq hSw; go_simp; try rfl
      simp only [Act.put, List.setIfInBounds_toArray, List.set_cons_zero, List.set_cons_succ]
      refine take_at 8 (some 39) (v := ?_) rfl rfl (by kernel_rfl) (by kernel_rfl) (by kernel_rfl) (fun _ _ _ h => h) ⟨by rfl, ?_⟩ hS ?_
      rotate_left
      · intro wq hSw; obtain ⟨g9, cap9, ev9, -, q9, -⟩ := (HLL.out.below hSw).bookAt HPK.out; cases ev9; go_simp; try rfl
      simp only [Act.put, List.setIfInBounds_toArray, List.set_cons_zero, List.set_cons_succ]
      refine take_at 10 (some 41) (v := ?_) rfl rfl (by kernel_rfl) (by kernel_rfl) (by kernel_rfl) (fun _ _ _ h => h) ⟨by rfl, ?_⟩ hS ?_
      rotate_left
      · intro wq hSw; go_simp; try rfl
      simp only [Act.put, List.setIfInBounds_toArray, List.set_cons_zero, List.set_cons_succ]
      refine take_at 11 (some 42) (v := ?_) rfl rfl (by kernel_rfl) (by kernel_rfl) (by kernel_rfl) (fun _ _ _ h => h) ⟨by rfl, ?_⟩ hS ?_
      rotate_left
      · intro wq hSw; go_simp; try rfl
      simp only [Act.put, List.setIfInBounds_toArray, List.set_cons_zero, List.set_cons_succ]
      refine take_at 12 (some 43) (v := ?_) rfl rfl (by kernel_rfl) (by kernel_rfl) (by kernel_rfl) (fun _ _ _ h => h) ⟨by rfl, ?_⟩ hS ?_
      rotate_left
      · intro wq hSw; go_simp; try rfl
      simp only [Act.put, List.setIfInBounds_toArray, List.set_cons_zero, List.set_cons_succ]
      refine take_at 13 (some 44) (v := ?_) rfl rfl (by kernel_rfl) (by kernel_rfl) (by kernel_rfl) (fun _ _ _ h => h) ⟨by rfl, ?_⟩ hS ?_
      rotate_left
      · intro wq hSw; have q := ((HLL.out.below hSw).box.get 0 _ rfl).1; rw [HLN.out] at q; go_simp; try rfl
      simp only [Act.put, List.setIfInBounds_toArray, List.set_cons_zero, List.set_cons_succ]
      refine take_at 14 (some 45) (v := ?_) rfl rfl (by kernel_rfl) (by kernel_rfl) (by kernel_rfl) (fun _ _ _ h => h) ⟨by rfl, ?_⟩ hS ?_
      rotate_left
      · intro wq hSw; go_simp; try rfl
      simp only [Act.put, List.setIfInBounds_toArray, List.set_cons_zero, List.set_cons_succ]
      refine take_at 15 (some 46) (v := ?_) rfl rfl (by kernel_rfl) (by kernel_rfl) (by kernel_rfl) (fun _ _ _ h => h) ⟨by rfl, ?_⟩ hS ?_
      rotate_left
      · intro wq hSw; go_simp; try rfl
      simp only [Act.put, List.setIfInBounds_toArray, List.set_cons_zero, List.set_cons_succ]
      refine take_at 16 (some 47) (v := ?_) rfl rfl (by kernel_rfl) (by kernel_rfl) (by kernel_rfl) (fun _ _ _ h => h) ⟨by rfl, ?_⟩ hS ?_
      rotate_left
      · intro wq hSw; obtain ⟨g9, cap9, ev9, -, q9, q8, q7, q6, -⟩ := (HLL.out.below hSw).bookAt HPK.out; cases ev9; go_simp; try rfl
      simp only [Act.put, List.setIfInBounds_toArray, List.set_cons_zero, List.set_cons_succ]
      have D2 := hide (D1.out.below (Below.refl _ _).drew)
      have B2 := hide hS
      clear hS
      generalize wr.drew = x2 at *
      obtain ⟨S1, R1, st1⟩ := D2.out.prog
      have KP := Of_any S1 p L t.n x2 R1 hx
      rw [OF.out] at KP
      refine wpAnyH_ready (rs := [9]) (by kernel_rfl) (by simp) ?_
      refine AllReadyH.cons rfl (fun K hK => ?_) AllReadyH.nil
      go_simp
      go_wp2_with fail
      refine KP.mono ?_
      rintro e x3 ⟨rfl, o⟩
      have B3 := hide (B2.out.trans (o.mono B2.out.size))
      clear o st1 R1 KP D2 B2
      go_wp2_with fail
      refine hK.out _ _ B3.out (fun hS => ?_)
      clear hK K hS
      (try simp only [Act.put, List.setIfInBounds_toArray, List.set_cons_zero, List.set_cons_succ])
      have KP := bowes_any t a2 c2 x3 TOK.out
      refine wpAnyH_ready (rs := [17]) (by kernel_rfl) (by simp) ?_
      refine AllReadyH.cons rfl (fun K hK => ?_) AllReadyH.nil
      go_simp
      go_wp2_with fail
      refine KP.mono ?_
      rintro e x4 ⟨rfl, o⟩
      have B4 := hide (B3.out.trans (o.mono B3.out.size))
      clear o KP B3
      go_wp2_with fail
      refine hK.out _ _ B4.out (fun hS => ?_)
      clear hK K
      (try simp only [Act.put, List.setIfInBounds_toArray, List.set_cons_zero, List.set_cons_succ])
      refine take_at 18 (some 49) (v := ?_) rfl rfl (by kernel_rfl) (by kernel_rfl) (by kernel_rfl) (fun _ _ _ h => h) ⟨by rfl, ?_⟩ hS ?_
      rotate_left
      · intro wq hSw; go_simp; try rfl
      simp only [Act.put, List.setIfInBounds_toArray, List.set_cons_zero, List.set_cons_succ]
      refine wpAnyH_done (by kernel_rfl) ?_ _
      have BF := hide (HB2.out.trans (B4.out.mono HB2.out.size))
      have B9 := B4
      clear hS B4
      go_upto_region 10 with fail
      obtain ⟨g9, cap9, ev9, -, q9, q8, q7, q6, -⟩ := (HLL.out.below B9.out).bookAt HPK.out
      cases ev9
      obtain ⟨k9, -⟩ := (HLL.out.below B9.out).box.get 0 _ rfl
      rw [HLN.out] at k9
      have K18 := bowes_any t a2 c2 x4 TOK.out
      go_wp2_with (go_at_call 18; refine K18.mono ?_; rintro e w8 ⟨rfl, b8⟩)
      go_roundw
      case rel => exact ⟨k + 1, by go_num, by rw [hw, ES.out], by omega, BF.out.trans (b8.mono BF.out.size)⟩
      case measure => simp [intOf]; omega
    · have ek : L.take k = L := List.take_of_length_le (by omega)
      rw [ek]
      clear hL e ek
      obtain ⟨S1, R1, -⟩ := D1.out.prog
      have K13 := Promised_any S1 p L wr R1
      clear R1
      obtain ⟨F, hF⟩ : ∃ F, F = prom L := ⟨_, rfl⟩
      rw [← hF] at K13 hpr ⊢
      have HF := hide hF
      clear hF
      go_upto_region 14 with (go_at_call 13; refine K13.mono ?_; rintro e w4 ⟨rfl, b4⟩)
      have HT4 := hide (HT2.out.below b4)
      clear K13 b4 HT2 HT HB2 D1 k0 few hk hlt OKL
      go_loopw [7] (fun vc wr => ∃ (c : Nat) (U : Nat → Prop) (L : List Tx), vc = .int .i64 (c : Int) ∧ prom L = F - (c : Int) ∧ Kept w wr U p b L) (fun vc _ => (F - intOf vc).toNat)
      case atStart => exact ⟨0, U, L, rfl, by rw [HF.out]; omega, HT4.out⟩
      case round =>
        clear HT4 HF
        obtain ⟨c, U, L, rfl, hpc, TT⟩ := hrel
        have HT := hide TT
        have okL := TT.duo.ok
        have hpn := prom_nonneg L
        have few := okL.few
        have HOK := hide okL
        have HPC := hide hpc
        have hcb : (c : Int) ≤ 2112 := by omega
        obtain ⟨S2, R2, -⟩ := TT.duo.ref
        obtain ⟨v, P, hLs, e⟩ := R2
        have hlen := map_len e
        by_cases hl : 0 < L.length
        · have l1 : decide (0 < L.length) = true := by simpa using hl
          have l2 : decide ((0 : Int) < (L.length : Int)) = true := decide_eq_true (by omega)
          obtain ⟨vk, hpk⟩ := map_at e (List.getElem?_eq_getElem hl)
          obtain ⟨g, cap2, rfl, hgl, p0, -⟩ := hLs.bookAt hpk
          obtain ⟨k0, -⟩ := hLs.box.get 0 _ rfl
          rw [hlen] at k0
          rw [Nat.zero_mul] at p0
          have h0 : L[0]? = some L[0] := List.getElem?_eq_getElem hl
          have hx := tx_i64 (HOK.out.each _ (List.mem_of_getElem? h0))
          have K20 := ends_any U p b L 0 L[0] 1 wr TT.duo h0 ⟨by decide, by decide⟩
          have HGO := hide (fun L' (h : Ended L L' L[0].n 1) => gone_or h0 rfl h)
          clear hlen hLs e TT okL hpk h0 hpc
          generalize L[0].n = n at *
          go_upto_region 16 with fail
          go_wp2_with fail
          refine K20.mono ?_
          rintro e w6 ⟨rfl, U6, L6, D6, s6, en⟩
          have HT6 := hide (HT.out.step s6 D6)
          have hone := en.one rfl
          have GO := hide (HGO.out L6 en)
          have HP6 := hide (show prom L6 = F - ((c + 1 : Nat) : Int) by have := HPC.out; omega)
          have hc1 : wrap64 ((c : Int) + 1) = (c : Int) + 1 := wrapI (i64s (by omega))
          have hc2 : wrap64 (F - ((c : Int) + 1)) = F - ((c : Int) + 1) := wrapI (i64s (by omega))
          clear K20 D6 s6 en HT HGO hone k0 p0 hpn l1 l2
          obtain ⟨S1, R1, -⟩ := HT6.out.duo.prog
          have K13 := Promised_any S1 p L6 w6 R1
          have e6 : prom L6 = F - ((c : Int) + 1) := by have := HP6.out; omega
          rw [e6] at K13
          clear R1 e6
          go_upto_region 20 with (go_at_call 13; refine K13.mono ?_; rintro e w7 ⟨rfl, b7⟩)
          have HT7 := hide (HT6.out.below b7)
          clear HT6 b7 K13
          obtain ⟨S2, R2, -⟩ := HT7.out.duo.ref
          obtain ⟨v, P, hLs, e⟩ := R2
          have hlen := map_len e
          rcases GO.out with ⟨gn, gnu⟩ | ⟨u, gu, gun⟩
          · have HGN := hide gn
            have K14 := fun (S1 : Nat → Prop) (wq : World) (R1 : Room wq S1 p L6) => Of_any S1 p L6 n wq R1 hx
            have K21 := fun (S1 : Nat → Prop) (wq : World) (R1 : Room wq S1 p L6) => Hold_any S1 p L6 n 1 wq R1 hx ⟨by decide, by decide⟩
            rw [show of L6 n = 0 by unfold of; rw [gn]] at K14
            rw [show holdE L6 n 1 = 130 by unfold holdE; rw [gn], show holdL L6 n 1 = L6 from hold_same (by unfold holdE; rw [gn]; decide)] at K21
            clear gn
            go_cut [10] (fun s w' => s = .bool true ∧ w7 = w')
            case first =>
              obtain ⟨a, cap, rfl, -⟩ := hLs.form
              obtain ⟨k0, -⟩ := hLs.box.get 0 _ rfl
              rw [hlen] at k0
              cases L6 with
              | nil =>
                simp only [List.length_nil] at *
                clear hLs e hlen gnu
                go_wp2_with fail
                go_meet
                exact ⟨rfl, rfl⟩
              | cons u r =>
                have z1 : (((u :: r).length : Int) == 0) = false := beq_eq_false_iff_ne.2 (by simp; omega)
                obtain ⟨vk, hpk⟩ := map_at e (show (u :: r)[0]? = some u from rfl)
                obtain ⟨g2, cap3, ev, hgl2, p0, -⟩ := hLs.bookAt hpk
                cases ev
                rw [Nat.zero_mul] at p0
                have z2 : (u.n != n) = true := by simpa using gnu u rfl
                have z3 : 0 < (u :: r).length := by simp
                clear hLs e hlen gnu hpk
                generalize (u :: r).length = m at *
                go_wp2_with fail
                go_meet
                exact ⟨rfl, rfl⟩
            case rest =>
              obtain ⟨rfl, hw7⟩ := hcut
              subst hw7
              clear hLs e hlen gnu
              obtain ⟨S1, R1, -⟩ := HT7.out.duo.prog
              have K14' := K14 S1 w7 R1
              clear R1
              go_wp2_with fail
              refine K14'.mono ?_
              rintro e w8 ⟨rfl, b8⟩
              have HT8 := hide (HT7.out.below b8)
              clear K14 K14' b8 HT7
              obtain ⟨S1, R1, st1⟩ := HT8.out.duo.prog
              have K21' := K21 S1 w8 R1
              have ST1 := hide st1
              clear R1 st1
              go_wp2_with fail
              refine K21'.mono ?_
              rintro e w9 ⟨rfl, o9⟩
              obtain ⟨U9, D9, s9⟩ := ST1.out _ _ o9
              have HT9 := hide (HT8.out.step s9 D9)
              clear K21 K21' o9 D9 s9 ST1 HT8
              go_wp2_with fail
              refine (num_eq _ _).mono ?_
              rintro e wz ⟨rfl, rfl⟩
              go_wp2_with fail
              go_roundw
              case rel => first | exact ⟨c + 1, U9, L6, by go_num, HP6.out, HT9.out⟩ | ((repeat apply Exists.intro); exact ⟨⟨c + 1, U9, L6, by go_num, HP6.out, HT9.out⟩, rfl⟩)
              case measure => simp [intOf]; have := HPC.out; have := prom_nonneg L; omega
          · obtain ⟨vk, hpk⟩ := map_at e gu
            obtain ⟨g2, cap3, rfl, hgl2, p0, -⟩ := hLs.bookAt hpk
            obtain ⟨k0, -⟩ := hLs.box.get 0 _ rfl
            rw [hlen] at k0
            rw [Nat.zero_mul, gun] at p0
            have z3 : 0 < L6.length := (List.getElem?_eq_some_iff.1 gu).1
            have z1 : ((L6.length : Int) == 0) = false := beq_eq_false_iff_ne.2 (by omega)
            have z4 := HT7.out.duo.ok.few
            clear hLs e hlen hpk gu gun
            generalize L6.length = m at *
            go_wp2_with fail
            go_roundw
            case rel => first | exact ⟨c + 1, U6, L6, by go_num, HP6.out, HT7.out⟩ | ((repeat apply Exists.intro); exact ⟨⟨c + 1, U6, L6, by go_num, HP6.out, HT7.out⟩, rfl⟩)
            case measure => simp [intOf]; have := HPC.out; have := prom_nonneg L; omega
        · have e0 : L = [] := List.eq_nil_of_length_eq_zero (by omega)
          subst e0
          have ec : F = (c : Int) := by have : prom [] = 0 := rfl; omega
          subst ec
          obtain ⟨a, cap, rfl, -⟩ := hLs.form
          obtain ⟨k0, -⟩ := hLs.box.get 0 _ rfl
          rw [hlen] at k0
          simp only [List.length_nil] at *
          have HB := hide TT.bel
          clear hlen hLs e TT okL hpc HPC
          go_wp2_with fail
          go_ret
          exact ⟨rfl, HB.out⟩
end Go.Proofs.Ytadppakflbilcaa
