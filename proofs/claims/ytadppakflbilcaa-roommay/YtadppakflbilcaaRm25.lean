import Derived.Test.YtadppakflbilcaaRm24
import Derived.Deep.CutBlock
namespace Go.Proofs.Ytadppakflbilcaa
open Go.RowKit Go.QK Go.Maps Go.QM Go.QR
set_option maxRecDepth 100000
theorem may_ok {L : List Tx} (h : Ok L) : mayE L (prom L) 0 0 = 0 ∧ (0 < prom L → mayE L (prom L - 1) 0 0 = 6) := by
  have := h.prom
  unfold mayE
  refine ⟨?_, fun q => ?_⟩
  · rw [if_neg (by omega), if_neg (by omega)]
  · rw [if_neg (by omega), if_pos (by omega)]
set_option maxHeartbeats 8000000 in
theorem law_may (xs : List OpX) (sa : Option Addr) (sc : Nat) (free parts more : Int) (w : World) (hL : Lies w sa (rowsC OpX.cs xs)) (hok : ∀ o ∈ xs, o.Ok) (h1 : I64 free) (h2 : I64 parts) (h3 : I64 more) : Calls Try.prog 5 #[.slice sa xs.length sc, .int .i64 free, .int .i64 parts, .int .i64 more] w fun e w' => e = .returned (.bool true) ∧ Below w.heap.size w w' := by
  have K15 := grown_any xs sa sc w hL hok
  have pe := ptr_eql
  clear hL hok
  go_enter Try.func5, Try.ntmps5
  go_wp2_with fail
  refine K15.mono ?_
  rintro e w1 ⟨p, b, U, L, rfl, D1, -, b1⟩
  clear K15
  have K9 := awake_any w1
  go_wp2_with fail
  refine K9.mono ?_
  rintro e w2 ⟨rfl, b2⟩
  have D2 := D1.below b2
  have B2 := b1.trans (b2.mono b1.size)
  clear K9 D1 b1 b2
  have hp := D2.ok.prom
  have MO := hide (may_ok D2.ok)
  have OKL := hide D2.ok
  obtain ⟨S1, R1, -⟩ := D2.prog
  have K13 := Promised_any S1 p L w2 R1
  go_wp2_with fail
  refine K13.mono ?_
  rintro e w3 ⟨rfl, b3⟩
  have D3 := D2.below b3
  have B3 := B2.trans (b3.mono B2.size)
  clear K13 D2 B2 b3 R1
  obtain ⟨E, hE⟩ : ∃ E, E = mayE L free parts more := ⟨_, rfl⟩
  obtain ⟨pp, hpp⟩ : ∃ pp, pp = prom L := ⟨_, rfl⟩
  obtain ⟨S1, R1, -⟩ := D3.prog
  have K17 := May_any S1 p L free parts more w3 R1 h1 h2 h3
  rw [← hE] at K17
  rw [← hpp] at hp MO ⊢
  have HE := hide hE
  have HPP := hide hpp
  clear hE hpp
  go_wp2_with fail
  refine K17.mono ?_
  rintro e w4 ⟨rfl, b4⟩
  have D4 := D3.below b4
  have B4 := B3.trans (b4.mono B3.size)
  clear K17 D3 B3 b4 R1
  go_wp2_with fail
  refine (num_eq _ _).mono ?_
  rintro e wz ⟨rfl, rfl⟩
  obtain ⟨S1, R1, -⟩ := D4.prog
  have K17 := May_any S1 p L free parts more w4 R1 h1 h2 h3
  rw [← HE.out] at K17
  go_wp2_with fail
  refine K17.mono ?_
  rintro e w5 ⟨rfl, b5⟩
  have HD5 := hide (D4.below b5)
  have HB5 := hide (B4.trans (b5.mono B4.size))
  clear K17 D4 B4 b5 R1
  go_wp2_with fail
  refine (num_eq _ _).mono ?_
  rintro e wz ⟨rfl, rfl⟩
  unfold I64 at h1 h2 h3
  go_upto_block 0 with fail
  go_cut [14] (fun s w' => s = .int .i64 E ∧ w' = w5)
  case first =>
    have hE := HE.out
    unfold mayE at hE
    rw [← HPP.out] at hE
    clear HE HPP MO OKL HD5 HB5
    have wf : wrap64 (free - pp) = free - pp ∨ free < 0 := by
      by_cases q : free < 0
      · exact .inr q
      · exact .inl (wrapI (by unfold I64; omega))
    by_cases c1 : free < 0
    · have e1 : decide (free < 0) = true := by simpa using c1
      rw [if_pos (.inl c1)] at hE
      subst hE
      go_wp2_with fail
      go_meet
      exact ⟨rfl, rfl⟩
    have e1 : decide (free < 0) = false := by simpa using c1
    by_cases c2 : parts < 0
    · have e2 : decide (parts < 0) = true := by simpa using c2
      rw [if_pos (.inr (.inl c2))] at hE
      subst hE
      go_wp2_with fail
      go_meet
      exact ⟨rfl, rfl⟩
    have e2 : decide (parts < 0) = false := by simpa using c2
    by_cases c3 : more < 0
    · have e3 : decide (more < 0) = true := by simpa using c3
      rw [if_pos (.inr (.inr c3))] at hE
      subst hE
      go_wp2_with fail
      go_meet
      exact ⟨rfl, rfl⟩
    have e3 : decide (more < 0) = false := by simpa using c3
    rw [if_neg (by omega)] at hE
    have w1' : wrap64 (free - pp) = free - pp := wrapI (by unfold I64; omega)
    clear wf
    by_cases c4 : free - pp < parts
    · have e4 : decide (free - pp < parts) = true := by simpa using c4
      rw [if_pos (by omega)] at hE
      subst hE
      go_wp2_with fail
      go_meet
      exact ⟨rfl, rfl⟩
    have e4 : decide (free - pp < parts) = false := by simpa using c4
    have w2' : wrap64 (free - pp - parts) = free - pp - parts := wrapI (by unfold I64; omega)
    by_cases c5 : free - pp - parts < more
    · have e5 : decide (free - pp - parts < more) = true := by simpa using c5
      rw [if_pos (by omega)] at hE
      subst hE
      go_wp2_with fail
      go_meet
      exact ⟨rfl, rfl⟩
    · have e5 : decide (free - pp - parts < more) = false := by simpa using c5
      rw [if_neg (by omega)] at hE
      subst hE
      go_wp2_with fail
      go_meet
      exact ⟨rfl, rfl⟩
  case rest =>
    obtain ⟨rfl, rfl⟩ := hcut
    clear HE
    obtain ⟨S1, R1, -⟩ := HD5.out.prog
    have K13 := Promised_any S1 p L _ R1
    rw [← HPP.out] at K13
    clear R1
    go_upto_region 14 with (go_at_call 13; refine K13.mono ?_; rintro e w6 ⟨rfl, b6⟩)
    have HD6 := hide (HD5.out.below b6)
    have HB6 := hide (HB5.out.trans (b6.mono HB5.out.size))
    clear K13 b6 HD5 HB5
    go_cut [101] (fun s w' => s = .bool false ∧ Below w6.heap.size w6 w')
    case first =>
      by_cases c1 : 0 ≤ free
      · have e1 : decide (0 ≤ free) = true := by simpa using c1
        obtain ⟨S1, R1, -⟩ := HD6.out.prog
        have K17 := May_any S1 p L pp 0 0 w6 R1 (i64s (by omega)) i64_0 i64_0
        rw [MO.out.1] at K17
        clear R1
        go_wp2_with fail
        refine K17.mono ?_
        rintro e w7 ⟨rfl, b7⟩
        have D7 := HD6.out.below b7
        go_wp2_with fail
        refine (num_eq _ _).mono ?_
        rintro e wz ⟨rfl, rfl⟩
        by_cases c2 : 0 < pp
        · have e2 : decide (0 < pp) = true := by simpa using c2
          have w1' : wrap64 (pp - 1) = pp - 1 := wrapI (i64s (by omega))
          obtain ⟨S1, R1, -⟩ := D7.prog
          have K18 := May_any S1 p L (pp - 1) 0 0 w7 R1 (i64s (by omega)) i64_0 i64_0
          rw [MO.out.2 c2] at K18
          have HB7 := hide b7
          clear R1 D7 K17 b7
          go_wp2_with fail
          refine K18.mono ?_
          rintro e w8 ⟨rfl, b8⟩
          go_wp2_with fail
          refine (num_eq _ _).mono ?_
          rintro e wz ⟨rfl, rfl⟩
          go_wp2_with fail
          go_meet
          exact ⟨rfl, HB7.out.trans (b8.mono HB7.out.size)⟩
        · have e2 : decide (0 < pp) = false := by simpa using c2
          go_wp2_with fail
          go_meet
          exact ⟨rfl, b7⟩
      · have e1 : decide (0 ≤ free) = false := by simpa using c1
        go_wp2_with fail
        go_meet
        exact ⟨rfl, Below.refl _ _⟩
    case rest =>
      obtain ⟨rfl, b7⟩ := hcut
      have HD7 := hide (HD6.out.below b7)
      have HB7 := hide (HB6.out.trans (b7.mono HB6.out.size))
      clear HD6 HB6 b7 MO HPP
      have few := OKL.out.few
      go_upto_region 17 with fail
      refine named (P := Code.wp _ _ _ _) ?_
      intro w7 hw7
      subst hw7
      go_loopw [15] (fun vi wr => ∃ k : Nat, vi = .int .i64 (k : Int) ∧ k ≤ L.length ∧ Below w7.heap.size w7 wr) (fun vi _ => L.length - (intOf vi).toNat)
      case atStart => exact ⟨0, rfl, Nat.zero_le _, Below.refl _ _⟩
      case round =>
        obtain ⟨k, rfl, hk, hb⟩ := hrel
        have D1 := hide (HD7.out.below hb)
        have HB8 := hide (HB7.out.trans (hb.mono HB7.out.size))
        have HB2 := hide hb
        clear hb
        obtain ⟨S2, R2, -⟩ := D1.out.ref
        obtain ⟨v, P, hL, e⟩ := R2
        have hlen := map_len e
        obtain ⟨a, cap, rfl, -⟩ := hL.form
        obtain ⟨k0, -⟩ := hL.box.get 0 _ rfl
        rw [hlen] at k0
        clear hlen
        by_cases hlt : k < L.length
        · obtain ⟨vk, hpk⟩ := map_at e (List.getElem?_eq_getElem hlt)
          have tok := OKL.out.each _ (List.getElem_mem hlt)
          have hx := tx_i64 tok
          have OF := hide (show of L L[k].n = L[k].owes by unfold of; rw [get_of_mem OKL.out.nd (List.getElem_mem hlt)])
          obtain ⟨a2, c2, rfl, -⟩ := hL.blist hpk
          obtain ⟨g0, cap0, ev0, -⟩ := hL.bookAt hpk
          cases ev0
          have HLL := hide hL
          have HPK := hide hpk
          have HLN := hide (map_len e)
          have TOK := hide tok
          clear hL hpk e tok
          generalize L[k] = t at *
          go_upto_region 19 with fail
          refine wp_region_held_drew (S := fun wq => Below wr.heap.size wr wq) (by kernel_rfl) (Below.refl _ _).drew (fun hS => ?_)
          refine take_at 0 (some 111) (v := ?_) rfl rfl (by kernel_rfl) (by kernel_rfl) (by kernel_rfl) (fun _ _ _ h => h) ⟨by rfl, ?_⟩ hS ?_
          rotate_left
          · intro wq hSw; go_simp; try rfl
          simp only [Act.put, List.setIfInBounds_toArray, List.set_cons_zero, List.set_cons_succ]
          refine take_at 1 (some 112) (v := ?_) rfl rfl (by kernel_rfl) (by kernel_rfl) (by kernel_rfl) (fun _ _ _ h => h) ⟨by rfl, ?_⟩ hS ?_
          rotate_left
          · intro wq hSw; go_simp; try rfl
          simp only [Act.put, List.setIfInBounds_toArray, List.set_cons_zero, List.set_cons_succ]
          refine take_at 2 (some 113) (v := ?_) rfl rfl (by kernel_rfl) (by kernel_rfl) (by kernel_rfl) (fun _ _ _ h => h) ⟨by rfl, ?_⟩ hS ?_
          rotate_left
          · intro wq hSw; go_simp; try rfl
          simp only [Act.put, List.setIfInBounds_toArray, List.set_cons_zero, List.set_cons_succ]
          refine take_at 3 (some 114) (v := ?_) rfl rfl (by kernel_rfl) (by kernel_rfl) (by kernel_rfl) (fun _ _ _ h => h) ⟨by rfl, ?_⟩ hS ?_
          rotate_left
          · intro wq hSw; go_simp; try rfl
          simp only [Act.put, List.setIfInBounds_toArray, List.set_cons_zero, List.set_cons_succ]
          refine take_at 4 (some 115) (v := ?_) rfl rfl (by kernel_rfl) (by kernel_rfl) (by kernel_rfl) (fun _ _ _ h => h) ⟨by rfl, ?_⟩ hS ?_
          rotate_left
          · intro wq hSw; have q := ((HLL.out.below hSw).box.get 0 _ rfl).1; rw [HLN.out] at q; go_simp; try rfl
          simp only [Act.put, List.setIfInBounds_toArray, List.set_cons_zero, List.set_cons_succ]
          refine take_at 5 (some 116) (v := ?_) rfl rfl (by kernel_rfl) (by kernel_rfl) (by kernel_rfl) (fun _ _ _ h => h) ⟨by rfl, ?_⟩ hS ?_
          rotate_left
          · intro wq hSw; go_simp; try rfl
          simp only [Act.put, List.setIfInBounds_toArray, List.set_cons_zero, List.set_cons_succ]
          refine take_at 6 (some 117) (v := ?_) rfl rfl (by kernel_rfl) (by kernel_rfl) (by kernel_rfl) (fun _ _ _ h => h) ⟨by rfl, ?_⟩ hS ?_
          rotate_left
          · intro wq hSw; go_simp; try rfl
          simp only [Act.put, List.setIfInBounds_toArray, List.set_cons_zero, List.set_cons_succ]
          refine take_at 7 (some 118) (v := ?_) rfl rfl (by kernel_rfl) (by kernel_rfl) (by kernel_rfl) (fun _ _ _ h => h) ⟨by rfl, ?_⟩ hS ?_
          rotate_left
          · intro wq hSw; go_simp; try rfl
          simp only [Act.put, List.setIfInBounds_toArray, List.set_cons_zero, List.set_cons_succ]
          refine take_at 8 (some 119) (v := ?_) rfl rfl (by kernel_rfl) (by kernel_rfl) (by kernel_rfl) (fun _ _ _ h => h) ⟨by rfl, ?_⟩ hS ?_
          rotate_left
          · intro wq hSw; obtain ⟨g9, cap9, ev9, -, q9, -⟩ := (HLL.out.below hSw).bookAt HPK.out; cases ev9; go_simp; try rfl
          simp only [Act.put, List.setIfInBounds_toArray, List.set_cons_zero, List.set_cons_succ]
          refine take_at 10 (some 121) (v := ?_) rfl rfl (by kernel_rfl) (by kernel_rfl) (by kernel_rfl) (fun _ _ _ h => h) ⟨by rfl, ?_⟩ hS ?_
          rotate_left
          · intro wq hSw; go_simp; try rfl
          simp only [Act.put, List.setIfInBounds_toArray, List.set_cons_zero, List.set_cons_succ]
          refine take_at 11 (some 122) (v := ?_) rfl rfl (by kernel_rfl) (by kernel_rfl) (by kernel_rfl) (fun _ _ _ h => h) ⟨by rfl, ?_⟩ hS ?_
          rotate_left
          · intro wq hSw; go_simp; try rfl
          simp only [Act.put, List.setIfInBounds_toArray, List.set_cons_zero, List.set_cons_succ]
          refine take_at 12 (some 123) (v := ?_) rfl rfl (by kernel_rfl) (by kernel_rfl) (by kernel_rfl) (fun _ _ _ h => h) ⟨by rfl, ?_⟩ hS ?_
          rotate_left
          · intro wq hSw; go_simp; try rfl
          simp only [Act.put, List.setIfInBounds_toArray, List.set_cons_zero, List.set_cons_succ]
          refine take_at 13 (some 124) (v := ?_) rfl rfl (by kernel_rfl) (by kernel_rfl) (by kernel_rfl) (fun _ _ _ h => h) ⟨by rfl, ?_⟩ hS ?_
          rotate_left
          · intro wq hSw; have q := ((HLL.out.below hSw).box.get 0 _ rfl).1; rw [HLN.out] at q; go_simp; try rfl
          simp only [Act.put, List.setIfInBounds_toArray, List.set_cons_zero, List.set_cons_succ]
          refine take_at 14 (some 125) (v := ?_) rfl rfl (by kernel_rfl) (by kernel_rfl) (by kernel_rfl) (fun _ _ _ h => h) ⟨by rfl, ?_⟩ hS ?_
          rotate_left
          · intro wq hSw; go_simp; try rfl
          simp only [Act.put, List.setIfInBounds_toArray, List.set_cons_zero, List.set_cons_succ]
          refine take_at 15 (some 126) (v := ?_) rfl rfl (by kernel_rfl) (by kernel_rfl) (by kernel_rfl) (fun _ _ _ h => h) ⟨by rfl, ?_⟩ hS ?_
          rotate_left
          · intro wq hSw; go_simp; try rfl
          simp only [Act.put, List.setIfInBounds_toArray, List.set_cons_zero, List.set_cons_succ]
          refine take_at 16 (some 127) (v := ?_) rfl rfl (by kernel_rfl) (by kernel_rfl) (by kernel_rfl) (fun _ _ _ h => h) ⟨by rfl, ?_⟩ hS ?_
          rotate_left
          · intro wq hSw; obtain ⟨g9, cap9, ev9, -, q9, q8, q7, q6, -⟩ := (HLL.out.below hSw).bookAt HPK.out; cases ev9; go_simp; try rfl
          simp only [Act.put, List.setIfInBounds_toArray, List.set_cons_zero, List.set_cons_succ]
          have D2 := hide (D1.out.below (Below.refl _ _).drew)
          have B2 := hide hS
          clear hS
          generalize wr.drew = x2 at *
          obtain ⟨S1, R1, st1⟩ := D2.out.prog
          have KP := Of_any S1 p L t.n x2 R1 hx
          rw [OF.out] at KP
          refine wpAnyH_ready (rs := [9]) (by kernel_rfl) (by simp) ?_
          refine AllReadyH.cons rfl (fun K hK => ?_) AllReadyH.nil
          go_simp
          go_wp2_with fail
          refine KP.mono ?_
          rintro e x3 ⟨rfl, o⟩
          have B3 := hide (B2.out.trans (o.mono B2.out.size))
          clear o st1 R1 KP D2 B2
          go_wp2_with fail
          refine hK.out _ _ B3.out (fun hS => ?_)
          clear hK K hS
          (try simp only [Act.put, List.setIfInBounds_toArray, List.set_cons_zero, List.set_cons_succ])
          have KP := bowes_any t a2 c2 x3 TOK.out
          refine wpAnyH_ready (rs := [17]) (by kernel_rfl) (by simp) ?_
          refine AllReadyH.cons rfl (fun K hK => ?_) AllReadyH.nil
          go_simp
          go_wp2_with fail
          refine KP.mono ?_
          rintro e x4 ⟨rfl, o⟩
          have B4 := hide (B3.out.trans (o.mono B3.out.size))
          clear o KP B3
          go_wp2_with fail
          refine hK.out _ _ B4.out (fun hS => ?_)
          clear hK K
          (try simp only [Act.put, List.setIfInBounds_toArray, List.set_cons_zero, List.set_cons_succ])
          refine take_at 18 (some 129) (v := ?_) rfl rfl (by kernel_rfl) (by kernel_rfl) (by kernel_rfl) (fun _ _ _ h => h) ⟨by rfl, ?_⟩ hS ?_
          rotate_left
          · intro wq hSw; go_simp; try rfl
          simp only [Act.put, List.setIfInBounds_toArray, List.set_cons_zero, List.set_cons_succ]
          refine wpAnyH_done (by kernel_rfl) ?_ _
          have BF := hide (HB2.out.trans (B4.out.mono HB2.out.size))
          clear hS B4
          go_wp2_with fail
          go_roundw
          case rel => exact ⟨k + 1, by go_num, by omega, BF.out⟩
          case measure => simp [intOf]; omega
        · clear hL e
          go_wp2_with fail
          go_ret
          exact ⟨rfl, HB8.out⟩
end Go.Proofs.Ytadppakflbilcaa
