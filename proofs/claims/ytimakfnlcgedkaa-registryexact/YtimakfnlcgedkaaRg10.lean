import Derived.Test.YtimakfnlcgedkaaRg9
namespace Go.Proofs.Ytimakfnlcgedkaa
open Go.RowKit Go.QK Go.Maps Go.QM Go.QR
set_option maxRecDepth 100000
set_option maxHeartbeats 4000000 in
theorem law_full (p0 q0 : Int) (w : World) : Calls Try.prog 3 #[.int .i64 p0, .int .i64 q0] w fun e w' => e = .returned (.bool true) ∧ Below w.heap.size w w' := by
  have KR1 : ∀ w, Calls Try.prog 8 #[.int .i64 p0, .int .i64 2, .int .i64 12] w _ := fun w => rest_any p0 2 12 w (by omega) (by omega)
  have KR2 : ∀ w, Calls Try.prog 8 #[.int .i64 q0, .int .i64 1, .int .i64 40] w _ := fun w => rest_any q0 1 40 w (by omega) (by omega)
  go_enter Try.func3, Try.ntmps3
  go_wp2_with fail
  refine (awake_any _).mono ?_
  rintro e w1 ⟨rfl, hb⟩
  have B1 := hide hb
  clear hb
  go_wp2_with fail
  refine (KR1 _).mono ?_
  rintro e w2 ⟨P, rfl, hp1, hp2, rfl⟩
  go_wp2_with fail
  refine (KR2 _).mono ?_
  rintro e w2 ⟨each, rfl, he1, he2, rfl⟩
  clear KR1 KR2
  have KN := fun w => new_yes P w hp1 (by omega)
  go_wp2_with fail
  refine (KN _).mono ?_
  rintro e w3 ⟨rfl, P3, hb, _⟩
  have HP3 := hide (show PR w3 _ _ _ (fullR P each 0) by rw [full_zero P each he1]; exact P3)
  have HB3 := hide (B1.out.trans (hb.mono B1.out.size))
  have PL := hide (show w.heap.size ≤ w2.heap.size + 2 ∧ w.heap.size ≤ w2.heap.size ∧ w.heap.size ≤ w2.heap.size + 1 by have := B1.out.size; omega)
  clear P3 hb B1 KN
  generalize w2.heap.size + 2 = b at *
  obtain ⟨m, hm⟩ : ∃ m, m = w2.heap.size := ⟨_, rfl⟩
  obtain ⟨g, hg⟩ : ∃ g, g = w2.heap.size + 1 := ⟨_, rfl⟩
  rw [← hg, ← hm] at HP3 PL
  clear hm hg
  go_wp2_with (go_at_call 10; refine (num_any _ _).mono ?_; rintro e w4 ⟨rfl, rfl⟩)
  go_loopw [7] (fun v wr => ∃ n : Nat, v = .int .i64 (n : Int) ∧ n ≤ 500 ∧ PR wr b m g (fullR P each n) ∧ Below w.heap.size w wr) (fun v _ => 500 - (intOf v).toNat)
  case atStart => exact ⟨0, rfl, by omega, HP3.out, HB3.out⟩
  case round =>
    obtain ⟨n, rfl, hn, P5, hb5⟩ := hrel
    have HP5 := hide P5
    have HB5 := hide hb5
    clear P5 hb5
    by_cases hlt : n < 500
    · obtain ⟨q, hq⟩ : ∃ q, q = n / each := ⟨_, rfl⟩
      have hqn : q ≤ n := by rw [hq]; exact Nat.div_le_self _ _
      have hq2 : (n : Int) / (each : Int) = (q : Int) := by rw [hq]; rfl
      have HPL := hide (full_plan P each n he1 hlt)
      rw [← hq] at HPL
      have HT := fun a b => full_take (P := P) (each := each) (n := n) (a := a) (b := b) he1
      rw [← hq] at HT
      have HQ := hide hq
      clear hq
      have KP := fun w' (h : PR w' b m g (fullR P each n)) => plan_any b m g (fullR P each n) ((n + 1 : Nat) : Int) ((q + 1 : Nat) : Int) w' h
      have KT := fun w' (x y : SlotN) (h : PR w' b m g (fullR P each n)) => take_any b m g (fullR P each n) ((n + 1 : Nat) : Int) ((q + 1 : Nat) : Int) x y w' h
      unfold PlanPost at KP
      unfold TakePost at KT
      rw [HPL.out] at KP HT
      by_cases hf : n / 31 + 1 + (q + 1 + 83) / 84 ≤ P
      · rw [if_pos hf] at KP
        obtain ⟨pw, hpw⟩ : ∃ x, x = (fullR P each n).planW ((n + 1 : Nat) : Int) ((q + 1 : Nat) : Int) := ⟨_, rfl⟩
        obtain ⟨ps, hps⟩ : ∃ x, x = (fullR P each n).planS ((n + 1 : Nat) : Int) ((q + 1 : Nat) : Int) := ⟨_, rfl⟩
        have HT2 := HT pw ps (by rw [if_pos hf]) hpw hps
        rw [← hpw, ← hps] at KP
        have KT2 := fun w' h => KT w' pw ps h
        rw [HT2.1, HT2.2] at KT2
        clear HT HT2 KT hpw hps HPL
        have hfi : decide ((n : Int) / 31 + 1 + ((q : Int) + 1 + 83) / 84 ≤ (P : Int)) = true := by simp; omega
        go_upto_region 14 with (go_at_call 11; refine (KP _ HP5.out).mono ?_; rintro e w6 ⟨rfl, hh⟩; have HP6 := hide (HP5.out.below hh); have HB6 := hide (HB5.out.trans (hh.mono HB5.out.size)); clear hh HP5 HB5 KP)
        refine named (P := Code.wp _ _ _ _) ?_
        intro w7 hw7
        obtain ⟨C1, C2, bb, sz⟩ := two_cells hw7
        have HP7 := hide (HP6.out.below bb)
        have HB7 := hide (HB6.out.trans (bb.mono HB6.out.size))
        clear hw7 bb sz HP6 HB6 hq2
        obtain ⟨t10, ht⟩ : ∃ t, t = w6.heap.size := ⟨_, rfl⟩
        rw [← ht] at C1 C2 ⊢
        obtain ⟨a0, _⟩ := C1.get 0 _ rfl
        obtain ⟨a1, _⟩ := C1.get 1 _ rfl
        obtain ⟨c0, _⟩ := C2.get 0 _ rfl
        obtain ⟨c1, _⟩ := C2.get 1 _ rfl
        clear ht C1 C2
        go_wp2_with (go_at_call 10; refine (num_any _ _).mono ?_; rintro e w4 ⟨rfl, rfl⟩)
        refine (KT2 _ HP7.out).mono ?_
        rintro e w8 ⟨rfl, P8, kp⟩
        have HB8 := hide (HB7.out.trans (kp.below HB7.out.size (fun z hz q => by have := PL.out; omega)))
        have HP8 := hide P8
        clear P8 kp HP7 HB7 KT2 a0 a1 c0 c1
        go_wp2_with (go_at_call 10; refine (num_any _ _).mono ?_; rintro e w4 ⟨rfl, rfl⟩)
        go_roundw
        case rel => exact ⟨n + 1, by go_num, by omega, HP8.out, HB8.out⟩
        case measure => simp [intOf]; omega
      · rw [if_neg hf] at KP
        obtain ⟨pw, hpw⟩ : ∃ x, x = (fullR P each n).planW ((n + 1 : Nat) : Int) ((q + 1 : Nat) : Int) := ⟨_, rfl⟩
        obtain ⟨ps, hps⟩ : ∃ x, x = (fullR P each n).planS ((n + 1 : Nat) : Int) ((q + 1 : Nat) : Int) := ⟨_, rfl⟩
        have hne : (fullR P each n).planE ((n + 1 : Nat) : Int) ((q + 1 : Nat) : Int) = 6 := by rw [HPL.out, if_neg hf]
        have HT2 := takeE_no (r := fullR P each n) (c := ((n + 1 : Nat) : Int)) (d := ((q + 1 : Nat) : Int)) (a := pw) (b := ps) (by rw [hne]; decide)
        rw [hne] at HT2
        rw [← hpw, ← hps] at KP
        have KT2 := fun w' h => KT w' pw ps h
        rw [HT2.1, HT2.2] at KT2
        have KC := fun w' (h : PR w' b m g (fullR P each n)) => counters_any b m g (fullR P each n) w' h
        have hlen : (rise (fullR P each n).nums).length = n := by rw [(rise_perm _).length_eq, full_nums]; simp
        have HLN := hide hlen
        clear HT HT2 KT hpw hps HPL hne hlen
        have hfi : decide ((n : Int) / 31 + 1 + ((q : Int) + 1 + 83) / 84 ≤ (P : Int)) = false := by simp; omega
        go_upto_region 14 with (go_at_call 11; refine (KP _ HP5.out).mono ?_; rintro e w6 ⟨rfl, hh⟩; have HP6 := hide (HP5.out.below hh); have HB6 := hide (HB5.out.trans (hh.mono HB5.out.size)); clear hh HP5 HB5 KP)
        refine named (P := Code.wp _ _ _ _) ?_
        intro w7 hw7
        obtain ⟨C1, C2, bb, sz⟩ := two_cells hw7
        have HP7 := hide (HP6.out.below bb)
        have HB7 := hide (HB6.out.trans (bb.mono HB6.out.size))
        clear hw7 bb sz HP6 HB6 hq2
        obtain ⟨t10, ht⟩ : ∃ t, t = w6.heap.size := ⟨_, rfl⟩
        rw [← ht] at C1 C2 ⊢
        obtain ⟨a0, _⟩ := C1.get 0 _ rfl
        obtain ⟨a1, _⟩ := C1.get 1 _ rfl
        obtain ⟨c0, _⟩ := C2.get 0 _ rfl
        obtain ⟨c1, _⟩ := C2.get 1 _ rfl
        clear ht C1 C2
        go_wp2_with (go_at_call 10; refine (num_any _ _).mono ?_; rintro e w4 ⟨rfl, rfl⟩)
        refine (KT2 _ HP7.out).mono ?_
        rintro e w8 ⟨rfl, P8, kp⟩
        have HB8 := hide (HB7.out.trans (kp.below HB7.out.size (fun z hz q => by have := PL.out; omega)))
        have HP8 := hide P8
        clear P8 kp HP7 HB7 KT2 a0 a1 c0 c1
        go_wp2_with (go_at_call 10; refine (num_any _ _).mono ?_; rintro e w4 ⟨rfl, rfl⟩)
        refine (KC _ HP8.out).mono ?_
        rintro e w9 ⟨v, rfl, ov, nv, hh⟩
        obtain ⟨av, cv, hv, _⟩ := ov.seen
        rw [HLN.out] at hv
        subst hv
        have HB9 := hide (HB8.out.trans (hh.mono HB8.out.size))
        clear ov nv hh HP8 HB8 KC
        go_wp2_with fail
        go_ret
        exact ⟨rfl, HB9.out⟩
    · go_wp2_with fail
      go_ret
      exact ⟨rfl, HB5.out⟩
end Go.Proofs.Ytimakfnlcgedkaa
