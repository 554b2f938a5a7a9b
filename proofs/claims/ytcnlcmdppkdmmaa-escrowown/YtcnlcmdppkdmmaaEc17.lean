import Derived.Test.YtcnlcmdppkdmmaaEc16
namespace Go.Proofs.Ytcnlcmdppkdmmaa
open Go.RowKit Go.QK Quota Go.Maps
set_option maxRecDepth 100000

theorem shl1 (n : Nat) (h : n ≤ 40) : wrap64 (2 ^ n) = ((2 ^ n : Nat) : Int) := by
  have h1 : (2 : Nat) ^ n ≤ 2 ^ 40 := Nat.pow_le_pow_right (by omega) h
  have e : ((2 : Int) ^ n) = ((2 ^ n : Nat) : Int) := by simp
  rw [e]
  generalize (2 : Nat) ^ n = x at *
  exact wrapI (by unfold I64; omega)

theorem pow_lt (k n : Nat) : ((k : Int) < (2 : Int) ^ n) ↔ k < 2 ^ n := by
  have e : ((2 : Int) ^ n) = ((2 ^ n : Nat) : Int) := by simp
  rw [e]
  exact Int.ofNat_lt

set_option maxHeartbeats 16000000 in
theorem law_outcomes (lo hi v : Int) (ds : List Deed) (a : Option Addr) (cap : Nat) (w : World) (h1 : I64 lo) (h2 : I64 hi) (hs : Lies w a (rowsC deedC ds)) (hx : ∀ d ∈ ds, I64 d.1 ∧ I64 d.2) (hl : ds.length ≤ 9223372036854775807) :
    Calls Try.prog 5 #[rng lo hi, .int .i64 v, .slice a ds.length cap] w fun r w' => r = .returned (.bool true) ∧ Below w.heap.size w w' := by
  have KM := fun w' (h : Lies w' a (rowsC deedC ds)) => made_any lo hi v ds a cap w' h1 h2 h hx hl
  have h8 := madeM_eight lo hi v ds
  have hlen := madeM_len lo hi v ds
  obtain ⟨e, he⟩ : ∃ e, e = madeM lo hi v ds := ⟨_, rfl⟩
  rw [← he] at KM h8 hlen
  have HS := hide hs
  clear he hs hx hl h1 h2
  go_enter Try.func5, Try.ntmps5
  go_wp2_with fail
  refine (first_any _).mono ?_
  rintro r w1 ⟨rfl, h1⟩
  obtain ⟨c0, c1, _, _, z0⟩ := keep1 h1
  have B1 := hide (below1 h1)
  clear h1
  go_wp2_with fail
  refine (KM _ (HS.out.below B1.out)).mono ?_
  rintro r w2 ⟨b, m, rfl, P2, g1, g2, h2⟩
  have B2 := hide (B1.out.trans (h2.mono B1.out.size))
  have HP2 := hide P2
  clear h2 P2 KM B1 c0 c1 g1 g2
  go_wp2_with fail
  refine (nets_any b m e _ HP2.out h8 (by omega)).mono ?_
  rintro r w3 ⟨al, cl, rfl, r3, h3⟩
  have B3 := hide (B2.out.trans (h3.mono B2.out.size))
  have P3 := hide (HP2.out.below h3)
  have R3 := hide (show Lies w3 al (rowsC netC e.nets) from by
    obtain ⟨a', c', q, hli, _⟩ := GRow.lies r3
    cases q
    exact hli)
  clear h3 HP2 B2 r3
  go_wp2_with fail
  refine (holders_any b m e _ P3.out (by omega)).mono ?_
  rintro r w4 ⟨vh, rfl, o4, _, h4⟩
  have B4 := hide (B3.out.trans (h4.mono B3.out.size))
  have P4 := hide (P3.out.below h4)
  have R4 := hide (R3.out.below h4)
  obtain ⟨ah, ch, rfl, hse, -, -, -⟩ := Owns.seen o4
  rw [List.length_map]
  have HSE := hide hse
  clear hse o4 h4 P3 R3 B3
  go_wp2_with fail
  go_loopw [11] (fun i wr => ∃ k : Nat, k ≤ e.nets.length ∧ i = .int .i64 k ∧ Below w4.heap.size w4 wr) (fun i _ => e.nets.length - (intOf i).toNat)
  case atStart => exact ⟨0, by omega, rfl, Below.refl _ _⟩
  case round =>
    obtain ⟨k, hk, rfl, hb⟩ := hrel
    by_cases q : k < e.nets.length
    · obtain ⟨bl, off, rfl, hlt, hcell⟩ := Lies.rowAt netC 2 (fun _ => rfl) (R4.out.below hb) k q (by omega)
      have y0 := hcell 0 _ rfl
      obtain ⟨bk, ok, rfl, hlk, y1⟩ := Seen.at (HSE.out.below hb) (i := k) (by simpa using q)
      rw [List.getElem_map] at y1
      rw [Nat.add_zero] at y0
      have HB := hide hb
      clear hcell hb
      generalize e.nets[k].1 = tx at *
      go_upto_region 13 with fail
      go_quiet (fail)
      go_wp2_with fail
      go_roundw
      case rel => exact ⟨k + 1, by omega, by go_num, by first | exact HB.out | exact HB.out.drew | exact below_drewN HB.out | (refine HB.out.trans ?_; constructor <;> first | rfl | exact Nat.le_refl _ | exact fun _ _ => rfl)⟩
      case measure => simp [intOf]; omega
    · have BW := hide (B4.out.trans (hb.mono B4.out.size))
      have PW := hide (P4.out.below hb)
      have RW := hide (R4.out.below hb)
      clear hb HSE R4 P4 B4
      go_wp2_with fail
      refine (interval_any b m e _ PW.out).mono ?_
      rintro r w5 ⟨rfl, h5⟩
      have o5 := h5.alloc h5.size (.cells #[.int .i64 e.low, .int .i64 e.high] 23)
      have P5 := hide (PW.out.below o5)
      have R5 := hide (RW.out.below o5)
      have B5 := hide (BW.out.trans (o5.mono BW.out.size))
      have X5 := hide (Box.new w5 (.int .i64 e.low) (.int .i64 e.high) 23)
      clear h5 o5 PW RW BW
      go_wp2_with fail
      refine (bounds_any b m e _ P5.out).mono ?_
      rintro r w6 ⟨rfl, h6⟩
      have o6 := h6.alloc h6.size (.cells #[.int .i64 e.lo, .int .i64 e.hi] 23)
      have Y6 := hide (Box.new w6 (.int .i64 e.lo) (.int .i64 e.hi) 23)
      have O6 := hide (show OSt w (w6.alloc (.cells #[.int .i64 e.lo, .int .i64 e.hi] 23)) b m w5.heap.size w6.heap.size e al from ⟨P5.out.below o6, R5.out.below o6, X5.out.below o6, Y6.out, B5.out.trans (o6.mono B5.out.size)⟩)
      clear h6 o6 P5 R5 X5 Y6 B5
      go_wp2_with fail
      go_loopw [16, 14, 15] (fun i f g wr => ∃ k : Nat, k ≤ 2 ^ e.nets.length ∧ i = .int .i64 k ∧ f = .bool (lowF e k) ∧ g = .bool (highF e k) ∧ OSt w wr b m w5.heap.size w6.heap.size e al) (fun i _ _ _ => 2 ^ e.nets.length - (intOf i).toNat)
      case atStart => exact ⟨0, Nat.zero_le _, rfl, rfl, rfl, O6.out⟩
      case round =>
        obtain ⟨k, hk, rfl, rfl, rfl, O⟩ := hrel
        have HO := hide O
        have hsh := shl1 e.nets.length hlen
        have hu : IntKind.u64.wrap (e.nets.length : Int) = (e.nets.length : Int) := by rw [IntKind.wrap_u64]; omega
        have hpl : (2 : Nat) ^ e.nets.length ≤ 2 ^ 40 := Nat.pow_le_pow_right (by omega) hlen
        have hn64 : (e.nets.length : Int) ≤ 64 := by omega
        clear O
        by_cases q : k < 2 ^ e.nets.length
        · have q' : (k : Int) < (2 : Int) ^ e.nets.length := (pow_lt _ _).2 q
          have hbt := pS_between e.nets k
          have ok := HO.out.pe.ok
          have b1 := ok.b1
          have b2 := ok.b2
          have KS := fun w' (h : PE w' b m e) => settled_any b m e w' h
          have KO := fun w' (h : Lies w' al (rowsC netC e.nets)) => outcome_any e.base e.nets k al cl w' h ok.rng.2.2.2 ok.all (by omega)
          have hls := lowF_succ e k
          have hhs := highF_succ e k
          have hz : ∃ Z, Z = e.base + pS e.nets k := ⟨_, rfl⟩
          obtain ⟨Z, hZ⟩ := hz
          rw [← hZ] at KO hls hhs
          have f1 : decide (Z < e.lo) = false := by simp; unfold Esc.low at b1; omega
          have f2 : decide (e.hi < Z) = false := by simp; unfold Esc.high at b2; omega
          have f3 : decide (Z < e.low) = false := by simp; unfold Esc.low; omega
          have f4 : decide (e.high < Z) = false := by simp; unfold Esc.high; omega
          have HLS := hide hls
          have HHS := hide hhs
          clear hls hhs hZ hbt b1 b2 ok
          have K1 := fun w' => below_w Z e.lo w'
          have K2 := fun w' => above_w Z e.hi w'
          have K3 := fun w' => below_w Z e.low w'
          have K4 := fun w' => above_w Z e.high w'
          have K5 := fun w' => above_w Z e.low w'
          have K6 := fun w' => below_w Z e.high w'
          rw [f1] at K1
          rw [f2] at K2
          rw [f3] at K3
          rw [f4] at K4
          clear f1 f2 f3 f4
          generalize decide (e.low < Z) = dl at *
          generalize decide (Z < e.high) = dh at *
          go_wp2_with fail
          refine (KS _ HO.out.pe).mono ?_
          rintro r x1 ⟨rfl, h1⟩
          have O1 := hide (HO.out.below h1)
          clear h1 KS HO
          go_wp2_with fail
          refine (KO _ O1.out.row).mono ?_
          rintro r x2 ⟨rfl, h2⟩
          have o2 := h2.alloc h2.size (.cells #[.int .i64 (wh Z), .int .i64 (wl Z)] 50)
          have O2 := hide (O1.out.below o2)
          have T2 := hide (Box.new x2 (.int .i64 (wh Z)) (.int .i64 (wl Z)) 50)
          clear h2 o2 KO O1
          obtain ⟨x3, hx3⟩ : ∃ x3, x3 = x2.alloc (.cells #[.int .i64 (wh Z), .int .i64 (wl Z)] 50) := ⟨_, rfl⟩
          rw [← hx3] at O2 T2
          go_upto_region 23 with fail
          rw [← hx3]
          clear hx3
          obtain ⟨t0, t1, t2, t3, t4⟩ := T2.out
          obtain ⟨i0, i1, i2, i3, i4⟩ := O2.out.bi
          obtain ⟨j0, j1, j2, j3, j4⟩ := O2.out.bj
          go_wp2_with fail
          refine (K1 _).mono ?_
          rintro r x4 ⟨rfl, h⟩
          have O3 := hide (O2.out.below h)
          have T3 := hide (T2.out.below h)
          clear h K1 O2 T2 t0 t1 t2 t3 t4 i0 i1 i2 i3 i4 j0 j1 j2 j3 j4
          obtain ⟨t0, t1, t2, t3, t4⟩ := T3.out
          obtain ⟨i0, i1, i2, i3, i4⟩ := O3.out.bi
          obtain ⟨j0, j1, j2, j3, j4⟩ := O3.out.bj
          go_wp2_with fail
          refine (K2 _).mono ?_
          rintro r x5 ⟨rfl, h⟩
          have O4 := hide (O3.out.below h)
          have T4 := hide (T3.out.below h)
          clear h K2 O3 T3 t0 t1 t2 t3 t4 i0 i1 i2 i3 i4 j0 j1 j2 j3 j4
          obtain ⟨t0, t1, t2, t3, t4⟩ := T4.out
          obtain ⟨i0, i1, i2, i3, i4⟩ := O4.out.bi
          obtain ⟨j0, j1, j2, j3, j4⟩ := O4.out.bj
          go_wp2_with fail
          refine (K3 _).mono ?_
          rintro r x6 ⟨rfl, h⟩
          have O5 := hide (O4.out.below h)
          have T5 := hide (T4.out.below h)
          clear h K3 O4 T4 t0 t1 t2 t3 t4 i0 i1 i2 i3 i4 j0 j1 j2 j3 j4
          obtain ⟨t0, t1, t2, t3, t4⟩ := T5.out
          obtain ⟨i0, i1, i2, i3, i4⟩ := O5.out.bi
          obtain ⟨j0, j1, j2, j3, j4⟩ := O5.out.bj
          go_wp2_with fail
          refine (K4 _).mono ?_
          rintro r x7 ⟨rfl, h⟩
          have O6 := hide (O5.out.below h)
          have T6 := hide (T5.out.below h)
          clear h K4 O5 T5 t0 t1 t2 t3 t4 i0 i1 i2 i3 i4 j0 j1 j2 j3 j4
          cases elf : lowF e k
          · cases ehf : highF e k
            · obtain ⟨t0, t1, t2, t3, t4⟩ := T6.out
              obtain ⟨i0, i1, i2, i3, i4⟩ := O6.out.bi
              go_wp2_with fail
              refine (K5 _).mono ?_
              rintro r x8 ⟨rfl, h⟩
              have O7 := hide (O6.out.below h)
              have T7 := hide (T6.out.below h)
              clear h K5 O6 T6 t0 t1 t2 t3 t4 i0 i1 i2 i3 i4
              obtain ⟨t0, t1, t2, t3, t4⟩ := T7.out
              obtain ⟨i0, i1, i2, i3, i4⟩ := O7.out.bi
              go_wp2_with fail
              refine (K6 _).mono ?_
              rintro r x9 ⟨rfl, h⟩
              have O8 := hide (O7.out.below h)
              have T8 := hide (T7.out.below h)
              clear h K6 O7 T7 t0 t1 t2 t3 t4 i0 i1 i2 i3 i4
              go_wp2_with fail
              go_roundw
              case rel =>
                exact ⟨k + 1, by omega, by go_num, by rw [HLS.out, elf]; simp, by rw [HHS.out, ehf]; simp, O8.out⟩
              case measure => simp [intOf]; omega
            · obtain ⟨t0, t1, t2, t3, t4⟩ := T6.out
              obtain ⟨i0, i1, i2, i3, i4⟩ := O6.out.bi
              go_wp2_with fail
              refine (K5 _).mono ?_
              rintro r x8 ⟨rfl, h⟩
              have O7 := hide (O6.out.below h)
              have T7 := hide (T6.out.below h)
              clear h K5 O6 T6 t0 t1 t2 t3 t4 i0 i1 i2 i3 i4
              go_wp2_with fail
              go_roundw
              case rel =>
                exact ⟨k + 1, by omega, by go_num, by rw [HLS.out, elf]; simp, by rw [HHS.out, ehf]; simp, O7.out⟩
              case measure => simp [intOf]; omega
          · cases ehf : highF e k
            · obtain ⟨t0, t1, t2, t3, t4⟩ := T6.out
              obtain ⟨i0, i1, i2, i3, i4⟩ := O6.out.bi
              go_wp2_with fail
              refine (K6 _).mono ?_
              rintro r x8 ⟨rfl, h⟩
              have O7 := hide (O6.out.below h)
              have T7 := hide (T6.out.below h)
              clear h K6 O6 T6 t0 t1 t2 t3 t4 i0 i1 i2 i3 i4
              go_wp2_with fail
              go_roundw
              case rel =>
                exact ⟨k + 1, by omega, by go_num, by rw [HLS.out, elf]; simp, by rw [HHS.out, ehf]; simp, O7.out⟩
              case measure => simp [intOf]; omega
            · go_wp2_with fail
              go_roundw
              case rel =>
                exact ⟨k + 1, by omega, by go_num, by rw [HLS.out, elf]; simp, by rw [HHS.out, ehf]; simp, O6.out⟩
              case measure => simp [intOf]; omega
        · have q' : ¬ (k : Int) < (2 : Int) ^ e.nets.length := fun q2 => q ((pow_lt _ _).1 q2)
          have hk2 : k = 2 ^ e.nets.length := by omega
          have ok := HO.out.pe.ok
          have h2p := Nat.two_pow_pos e.nets.length
          have hsb : wrap64 ((2 : Int) ^ e.nets.length - 1) = ((2 ^ e.nets.length - 1 : Nat) : Int) := by
            have e9 : ((2 : Int) ^ e.nets.length) = ((2 ^ e.nets.length : Nat) : Int) := by simp
            rw [e9]
            generalize (2 : Nat) ^ e.nets.length = x at *
            rw [wrapI (by unfold I64; omega)]
            omega
          have KS := fun w' (h : PE w' b m e) => settled_any b m e w' h
          have KO := fun w' (h : Lies w' al (rowsC netC e.nets)) => outcome_any e.base e.nets (2 ^ e.nets.length - 1) al cl w' h ok.rng.2.2.2 ok.all (by omega)
          rw [pS_all] at KO
          have hv : e.base + allS e.nets = e.val := rfl
          rw [hv] at KO
          have hlf := lowF_end e
          have hhf := highF_end e
          rw [hk2, hlf, hhf]
          have KV := fun w' (h : PE w' b m e) => value_any b m e w' h
          have KB := fun w' => below_w e.val e.val w'
          have KA := fun w' => above_w e.val e.val w'
          rw [show decide (e.val < e.val) = false from by simp] at KB KA
          generalize e.val = V at *
          clear hlf hhf ok hpl
          rw [hk2] at q'
          clear hk hk2 h2p q
          generalize ((2 ^ e.nets.length - 1 : Nat) : Int) = N1 at *
          go_wp2_with fail
          refine (KS _ HO.out.pe).mono ?_
          rintro r x1 ⟨rfl, h1⟩
          have O1 := hide (HO.out.below h1)
          clear h1 KS HO
          go_wp2_with fail
          refine (KO _ O1.out.row).mono ?_
          rintro r x2 ⟨rfl, h2⟩
          have o2 := h2.alloc h2.size (.cells #[.int .i64 (wh V), .int .i64 (wl V)] 50)
          have O2 := hide (O1.out.below o2)
          have T2 := hide (Box.new x2 (.int .i64 (wh V)) (.int .i64 (wl V)) 50)
          clear h2 o2 KO O1
          obtain ⟨x3, hx3⟩ : ∃ x3, x3 = x2.alloc (.cells #[.int .i64 (wh V), .int .i64 (wl V)] 50) := ⟨_, rfl⟩
          rw [← hx3] at O2 T2
          go_upto_region 28 with fail
          rw [← hx3]
          clear hx3
          obtain ⟨t0, t1, t2, t3, t4⟩ := T2.out
          refine wp_region_held_drew (S := fun wq => wq.cell? ⟨x2.heap.size, 0, none⟩ = some (.int .i64 (wh V)) ∧ wq.cell? ⟨x2.heap.size, 1, none⟩ = some (.int .i64 (wl V))) (by kernel_rfl) ⟨t1, t2⟩ (fun hS => ?_)
          have O3 := hide (O2.out.below (Below.refl _ _).drew)
          have T3 := hide (T2.out.below (Below.refl _ _).drew)
          clear t0 t1 t2 t3 t4 O2 T2
          generalize x3.drew = x4 at *
          refine take_at 0 (some 119) (v := ?_) rfl rfl (by kernel_rfl) (by kernel_rfl) (by kernel_rfl) (fun _ _ _ h => h) ⟨by rfl, ?_⟩ hS ?_
          rotate_left
          · intro wq hSw; go_simp; try rfl
          simp only [Act.put, List.setIfInBounds_toArray, List.set_cons_zero, List.set_cons_succ]
          refine take_at 1 (some 120) (v := ?_) rfl rfl (by kernel_rfl) (by kernel_rfl) (by kernel_rfl) (fun _ _ _ h => h) ⟨by rfl, ?_⟩ hS ?_
          rotate_left
          · intro wq hSw; go_simp; try rfl
          simp only [Act.put, List.setIfInBounds_toArray, List.set_cons_zero, List.set_cons_succ]
          refine take_at 2 (some 121) (v := ?_) rfl rfl (by kernel_rfl) (by kernel_rfl) (by kernel_rfl) (fun _ _ _ h => h) ⟨by rfl, ?_⟩ hS ?_
          rotate_left
          · intro wq hSw; go_simp; try rfl
          simp only [Act.put, List.setIfInBounds_toArray, List.set_cons_zero, List.set_cons_succ]
          refine take_at 3 (some 122) (v := ?_) rfl rfl (by kernel_rfl) (by kernel_rfl) (by kernel_rfl) (fun _ _ _ h => h) ⟨by rfl, ?_⟩ hS ?_
          rotate_left
          · intro wq hSw; go_simp; try rfl
          simp only [Act.put, List.setIfInBounds_toArray, List.set_cons_zero, List.set_cons_succ]
          refine take_at 4 (some 123) (v := ?_) rfl rfl (by kernel_rfl) (by kernel_rfl) (by kernel_rfl) (fun _ _ _ h => h) ⟨by rfl, ?_⟩ hS ?_
          rotate_left
          · intro wq hSw; go_simp; try rfl
          simp only [Act.put, List.setIfInBounds_toArray, List.set_cons_zero, List.set_cons_succ]
          refine take_at 5 (some 124) (v := ?_) rfl rfl (by kernel_rfl) (by kernel_rfl) (by kernel_rfl) (fun _ _ _ h => h) ⟨by rfl, ?_⟩ hS ?_
          rotate_left
          · intro wq hSw; obtain ⟨r0, r1⟩ := hSw; go_simp; try rfl
          simp only [Act.put, List.setIfInBounds_toArray, List.set_cons_zero, List.set_cons_succ]
          refine take_at 6 (some 125) (v := ?_) rfl rfl (by kernel_rfl) (by kernel_rfl) (by kernel_rfl) (fun _ _ _ h => h) ⟨by rfl, ?_⟩ hS ?_
          rotate_left
          · intro wq hSw; go_simp; try rfl
          simp only [Act.put, List.setIfInBounds_toArray, List.set_cons_zero, List.set_cons_succ]
          refine wpAnyH_ready (rs := [7]) (by kernel_rfl) (by simp) ?_
          refine AllReadyH.cons rfl (fun K hK => ?_) AllReadyH.nil
          go_simp
          go_wp2_with fail
          refine (KV _ O3.out.pe).mono ?_
          rintro r y4 ⟨rfl, h⟩
          have O4 := hide (O3.out.below h)
          have T4 := hide (T3.out.below h)
          clear h O3 T3
          go_wp2_with fail
          refine hK.out _ _ ⟨T4.out.2.1, T4.out.2.2.1⟩ (fun hS => ?_)
          clear hK K
          (try simp only [Act.put, List.setIfInBounds_toArray, List.set_cons_zero, List.set_cons_succ])
          refine wpAnyH_ready (rs := [8]) (by kernel_rfl) (by simp) ?_
          refine AllReadyH.cons rfl (fun K hK => ?_) AllReadyH.nil
          go_simp
          go_wp2_with fail
          refine (KB _).mono ?_
          rintro r y5 ⟨rfl, h⟩
          have O5 := hide (O4.out.below h)
          have T5 := hide (T4.out.below h)
          clear h O4 T4
          go_wp2_with fail
          refine hK.out _ _ ⟨T5.out.2.1, T5.out.2.2.1⟩ (fun hS => ?_)
          clear hK K
          (try simp only [Act.put, List.setIfInBounds_toArray, List.set_cons_zero, List.set_cons_succ])
          refine take_at 9 (some 128) (v := ?_) rfl rfl (by kernel_rfl) (by kernel_rfl) (by kernel_rfl) (fun _ _ _ h => h) ⟨by rfl, ?_⟩ hS ?_
          rotate_left
          · intro wq hSw; go_simp; try rfl
          simp only [Act.put, List.setIfInBounds_toArray, List.set_cons_zero, List.set_cons_succ]
          refine take_at 10 (some 129) (v := ?_) rfl rfl (by kernel_rfl) (by kernel_rfl) (by kernel_rfl) (fun _ _ _ h => h) ⟨by rfl, ?_⟩ hS ?_
          rotate_left
          · intro wq hSw; go_simp; try rfl
          simp only [Act.put, List.setIfInBounds_toArray, List.set_cons_zero, List.set_cons_succ]
          refine take_at 11 (some 130) (v := ?_) rfl rfl (by kernel_rfl) (by kernel_rfl) (by kernel_rfl) (fun _ _ _ h => h) ⟨by rfl, ?_⟩ hS ?_
          rotate_left
          · intro wq hSw; go_simp; try rfl
          simp only [Act.put, List.setIfInBounds_toArray, List.set_cons_zero, List.set_cons_succ]
          refine take_at 12 (some 131) (v := ?_) rfl rfl (by kernel_rfl) (by kernel_rfl) (by kernel_rfl) (fun _ _ _ h => h) ⟨by rfl, ?_⟩ hS ?_
          rotate_left
          · intro wq hSw; obtain ⟨r0, r1⟩ := hSw; go_simp; try rfl
          simp only [Act.put, List.setIfInBounds_toArray, List.set_cons_zero, List.set_cons_succ]
          refine take_at 13 (some 132) (v := ?_) rfl rfl (by kernel_rfl) (by kernel_rfl) (by kernel_rfl) (fun _ _ _ h => h) ⟨by rfl, ?_⟩ hS ?_
          rotate_left
          · intro wq hSw; go_simp; try rfl
          simp only [Act.put, List.setIfInBounds_toArray, List.set_cons_zero, List.set_cons_succ]
          refine wpAnyH_ready (rs := [14]) (by kernel_rfl) (by simp) ?_
          refine AllReadyH.cons rfl (fun K hK => ?_) AllReadyH.nil
          go_simp
          go_wp2_with fail
          refine (KV _ O5.out.pe).mono ?_
          rintro r y6 ⟨rfl, h⟩
          have O6 := hide (O5.out.below h)
          have T6 := hide (T5.out.below h)
          clear h O5 T5
          go_wp2_with fail
          refine hK.out _ _ ⟨T6.out.2.1, T6.out.2.2.1⟩ (fun hS => ?_)
          clear hK K
          (try simp only [Act.put, List.setIfInBounds_toArray, List.set_cons_zero, List.set_cons_succ])
          refine wpAnyH_ready (rs := [15]) (by kernel_rfl) (by simp) ?_
          refine AllReadyH.cons rfl (fun K hK => ?_) AllReadyH.nil
          go_simp
          go_wp2_with fail
          refine (KA _).mono ?_
          rintro r y7 ⟨rfl, h⟩
          have O7 := hide (O6.out.below h)
          have T7 := hide (T6.out.below h)
          clear h O6 T6
          go_wp2_with fail
          refine hK.out _ _ ⟨T7.out.2.1, T7.out.2.2.1⟩ (fun hS => ?_)
          clear hK K
          (try simp only [Act.put, List.setIfInBounds_toArray, List.set_cons_zero, List.set_cons_succ])
          refine take_at 16 (some 135) (v := ?_) rfl rfl (by kernel_rfl) (by kernel_rfl) (by kernel_rfl) (fun _ _ _ h => h) ⟨by rfl, ?_⟩ hS ?_
          rotate_left
          · intro wq hSw; go_simp; try rfl
          simp only [Act.put, List.setIfInBounds_toArray, List.set_cons_zero, List.set_cons_succ]
          refine take_at 17 (some 136) (v := ?_) rfl rfl (by kernel_rfl) (by kernel_rfl) (by kernel_rfl) (fun _ _ _ h => h) ⟨by rfl, ?_⟩ hS ?_
          rotate_left
          · intro wq hSw; go_simp; try rfl
          simp only [Act.put, List.setIfInBounds_toArray, List.set_cons_zero, List.set_cons_succ]
          refine take_at 18 (some 6) (v := ?_) rfl rfl (by kernel_rfl) (by kernel_rfl) (by kernel_rfl) (fun _ _ _ h => h) ⟨by rfl, ?_⟩ hS ?_
          rotate_left
          · intro wq hSw; go_simp; try rfl
          simp only [Act.put, List.setIfInBounds_toArray, List.set_cons_zero, List.set_cons_succ]
          refine wpAnyH_done (by kernel_rfl) ?_ _
          go_wp2_with fail
          go_ret
          exact ⟨rfl, O7.out.bel⟩
end Go.Proofs.Ytcnlcmdppkdmmaa
