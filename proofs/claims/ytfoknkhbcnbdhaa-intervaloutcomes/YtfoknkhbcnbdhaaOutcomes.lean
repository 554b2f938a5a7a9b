import Derived.Test.YtfoknkhbcnbdhaaParts
import Derived.Deep.DeepCutAuto
namespace Go.Proofs.Ytfoknkhbcnbdhaa
open Go.RowKit Quota

theorem worst_rev (base : Int) (xs : List Int) : loW base xs.reverse = loW base xs ∧ hiW base xs.reverse = hiW base xs ∧ erW base xs.reverse = erW base xs := by
  simp only [loW, hiW, erW, okW, lows_reverse, highs_reverse]
  exact ⟨rfl, rfl, rfl⟩

set_option maxHeartbeats 1000000 in
set_option maxRecDepth 100000 in
theorem outcomes_walk (xs0 : List Int) (a : Option Addr) (cap : Nat) (base which : Int) (w0 : World) (hs : Seen w0 a xs0) (hx : All xs0) (ha : a = none → cap = 0) (hc : xs0.length ≤ cap) (hcap : cap ≤ maxLen) (h0 : I64 base) :
    Calls Try.prog 6 #[.int .i64 base, .slice a xs0.length cap, .int .i64 which] w0 fun e w' => e = .returned (.bool true) ∧ Below w0.heap.size w0 w' := by
  obtain ⟨xs, hcut⟩ : ∃ xs, xs0.take 60 = xs := ⟨_, rfl⟩
  have hl : xs.length ≤ 60 := by rw [← hcut]; simp; omega
  have hle : xs.length ≤ cap := by rw [← hcut]; simp; omega
  have hmin : min xs0.length 60 = xs.length := by rw [← hcut]; simp; omega
  have hx1 : All xs := by rw [← hcut]; exact all_take hx _
  have hs1 : Seen w0 a xs := by rw [← hcut]; exact hs.take _
  have HM : Hid (min xs0.length 60 = xs.length) := hmin
  clear hcut hmin
  unfold maxLen at hcap
  go_enter Try.func6, Try.ntmps6
  go_wp2_with fail
  refine (awake_any _).mono ?_
  rintro e w1 ⟨rfl, h1⟩
  go_wp2_with fail
  refine (cut_at a xs0.length cap 60 60 _ rfl hc (fun h => by have := ha h; omega) (by unfold maxLen; omega) (by omega)).mono ?_
  rintro e w' ⟨rfl, rfl⟩
  rw [HM.out]
  have hs2 := hs1.below h1
  clear HM hs hx hs1
  go_wp2_with fail
  refine (worst_any base xs a cap _ h0 hs2 hx1 (by omega)).mono ?_
  rintro e w2 ⟨rfl, h2⟩
  have hs3 := hs2.below h2
  have g2 := h1.trans (h2.mono h1.size)
  clear h1 h2 hs2
  have B2 := Box.new w2 (.int .i64 (loW base xs)) (.int .i64 (hiW base xs)) 24
  have g2' := g2.alloc g2.size (.cells #[.int .i64 (loW base xs), .int .i64 (hiW base xs)] 24)
  have hs3' := hs3.below ((Below.refl _ _).alloc (Nat.le_refl _) (.cells #[.int .i64 (loW base xs), .int .i64 (hiW base xs)] 24))
  go_wp2_with fail
  refine (turned_any xs a cap _ hs3' (by omega)).mono ?_
  rintro e w3 ⟨v, rfl, hown, h3⟩
  obtain ⟨av, cv, rfl, hsv, _, _⟩ := hown.seen
  have hs4 := hs3'.below h3
  have g3 := g2'.trans (h3.mono g2'.size)
  have B3 := B2.below h3
  clear h3 hs3 hs3' g2 g2' hown B2
  go_wp2_with fail
  have K := worst_any base xs.reverse av cv w3 h0 hsv (all_reverse hx1) (by simp; omega)
  rw [(worst_rev base xs).1, (worst_rev base xs).2.1, (worst_rev base xs).2.2, List.length_reverse] at K
  refine K.mono ?_
  clear K
  rintro e w4 ⟨rfl, h4⟩
  have hs5 := hs4.below h4
  have g4 := g3.trans (h4.mono g3.size)
  have B4 := B3.below h4
  clear h4 hs4 g3 hsv B3
  have HW : Hid (loW base xs = loW base xs ∧ hiW base xs = hiW base xs ∧ erW base xs = erW base xs) := ⟨rfl, rfl, rfl⟩
  obtain ⟨lo, hi, er, e1, e2, e3⟩ : ∃ lo hi er, loW base xs = lo ∧ hiW base xs = hi ∧ erW base xs = er := ⟨_, _, _, rfl, rfl, rfl⟩
  rw [e1, e2] at B4
  rw [e1, e2, e3]
  clear HW
  have HW : Hid (loW base xs = lo ∧ hiW base xs = hi ∧ erW base xs = er) := ⟨e1, e2, e3⟩
  clear e1 e2 e3
  have HB4 : Hid (Box w4 w2.heap.size (.int .i64 lo) (.int .i64 hi)) := B4
  obtain ⟨z4, c0, c1, f0, f1⟩ := B4
  go_wp2_with fail
  obtain ⟨L1, L2, L3⟩ := two_lits w4 lo hi base
  go_loopw [11, 12, 13] (fun u v i wr => ∃ k : Nat, k ≤ xs.length ∧ i = .int .i64 k ∧ Owns wr (w4.heap.size + 1) u (base :: negs (xs.take k)) ∧ Owns wr (w4.heap.size + 1) v (base :: poss (xs.take k)) ∧ u.ownBlock ≠ v.ownBlock ∧ Below w4.heap.size w4 wr ∧ w4.heap.size + 1 ≤ wr.heap.size) (fun _ _ i _ => xs.length - (intOf i).toNat)
  case atStart =>
    exact ⟨0, Nat.zero_le _, rfl, L1, L2, by simp [Value.ownBlock], L3, by simp⟩
  case round =>
    clear L1 L2 L3
    obtain ⟨k, hk, rfl, O1, O2, hne, hb, hz⟩ := hrel
    by_cases hlt : k < xs.length
    · have hck : ∃ b off, a = some ⟨b, off, none⟩ ∧ wr.cell? ⟨b, off + k, none⟩ = some (.int .i64 xs[k]) := by
        rcases hs5.below hb with hn | ⟨b, off, ea, hbl, hcell⟩
        · simp [hn] at hlt
        · exact ⟨b, off, ea, hcell k hlt⟩
      obtain ⟨b, off, rfl, hck⟩ := hck
      have hn1 := negs_len (xs.take k)
      have hn2 : (xs.take k).length ≤ 60 := by simp; omega
      by_cases hneg : xs[k] < 0
      · obtain ⟨s1, s2⟩ := negs_step xs k hlt hneg
        have HS1 : Hid _ := s1
        have HS2 : Hid _ := s2
        clear s1 s2
        generalize xs[k] = x at *
        have P1 : Hid (Owns wr (w4.heap.size + 1) u11 (base :: negs (xs.take k))) := O1
        have P2 : Hid (Owns wr (w4.heap.size + 1) u12 (base :: poss (xs.take k))) := O2
        have HN : Hid (u11.ownBlock ≠ u12.ownBlock) := hne
        clear O1 O2 hne
        go_wp2_with (at_builtin; refine push_own rfl (.tmp 64) (.tmp 69) rfl (w4.heap.size + 1) _ (base :: negs (xs.take k)) rfl ⟨wr.heap.size, 0, none⟩ x rfl (P1.out.alloc _) ?c1 ?c2 ?c3 ?_)
        case c1 => simp [go_sem]
        case c2 => first | omega | (simp; omega)
        case c3 => first | omega | (simp; omega)
        intro v' w' o1 r1 at1
        have R := grow_two P1.out P2.out HN.out hb hz o1 r1 at1
        clear o1 r1 at1 P1 P2 HN
        have HR : Hid _ := R
        clear R
        go_wp2_with fail
        go_roundw
        case rel => exact ⟨k + 1, by omega, by go_num, by rw [HS1.out]; exact HR.out.1, by rw [HS2.out]; exact HR.out.2.1, HR.out.2.2.1, HR.out.2.2.2.1, HR.out.2.2.2.2⟩
        case measure => simp [intOf]; omega
      · obtain ⟨s1, s2⟩ := poss_step xs k hlt hneg
        have HS1 : Hid _ := s1
        have HS2 : Hid _ := s2
        clear s1 s2
        generalize xs[k] = x at *
        have P1 : Hid (Owns wr (w4.heap.size + 1) u11 (base :: negs (xs.take k))) := O1
        have P2 : Hid (Owns wr (w4.heap.size + 1) u12 (base :: poss (xs.take k))) := O2
        have HN : Hid (u11.ownBlock ≠ u12.ownBlock) := hne
        clear O1 O2 hne
        go_wp2_with (at_builtin; refine push_own rfl (.tmp 71) (.tmp 76) rfl (w4.heap.size + 1) _ (base :: poss (xs.take k)) rfl ⟨wr.heap.size, 0, none⟩ x rfl (P2.out.alloc _) (by simp [go_sem]) ?c2 ?c3 ?_)
        case c2 => first | omega | (simp; omega)
        case c3 => first | omega | (simp; omega)
        intro v' w' o1 r1 at1
        have R := grow_two P2.out P1.out (Ne.symm HN.out) hb hz o1 r1 at1
        clear o1 r1 at1 P1 P2 HN
        have HR : Hid _ := R
        clear R
        go_wp2_with fail
        go_roundw
        case rel => exact ⟨k + 1, by omega, by go_num, by rw [HS1.out]; exact HR.out.2.1, by rw [HS2.out]; exact HR.out.1, Ne.symm HR.out.2.2.1, HR.out.2.2.2.1, HR.out.2.2.2.2⟩
        case measure => simp [intOf]; omega
    · obtain rfl : k = xs.length := by omega
      rw [List.take_length] at O1 O2
      obtain ⟨ms, hms⟩ : ∃ ms, ms = base :: negs xs := ⟨_, rfl⟩
      obtain ⟨ns, hns⟩ : ∃ ns, ns = base :: poss xs := ⟨_, rfl⟩
      rw [← hms] at O1
      rw [← hns] at O2
      have ln1 := negs_len xs
      have lm : ms.length ≤ 61 := by rw [hms]; simp; omega
      have ln : ns.length ≤ 61 := by rw [hns]; simp; omega
      have am : All ms := by rw [hms]; intro y hy; rcases List.mem_cons.1 hy with e | e; (rw [e]; exact h0); exact (all_negs hx1).1 y e
      have an : All ns := by rw [hns]; intro y hy; rcases List.mem_cons.1 hy with e | e; (rw [e]; exact h0); exact (all_negs hx1).2 y e
      have sm : isum ms = base + lows xs := by rw [hms, isum, isum_negs]
      have sn : isum ns = base + highs xs := by rw [hns, isum, isum_poss]
      obtain ⟨a1, c1', rfl, s1, _, _⟩ := O1.seen
      obtain ⟨a2, c2', rfl, s2, _, _⟩ := O2.seen
      have K1 := fun w h => sum_any ms a1 c1' w h am (by omega)
      have K2 := fun w h => sum_any ns a2 c2' w h an (by omega)
      rw [sm] at K1
      rw [sn] at K2
      clear O1 O2 am an sm sn hms hns hne ln1
      have HK1 : Hid _ := K1
      have HK2 : Hid _ := K2
      clear K1 K2
      have g5 := g4.trans (hb.mono g4.size)
      have B5 := Box.below HB4.out hb
      have hs6 := hs5.below hb
      clear hb z4 c0 c1 f0 f1
      go_wp2_with fail
      refine (HK1.out _ s1).mono ?_
      rintro e w6 ⟨rfl, h6⟩
      have g6 := g5.trans (h6.mono g5.size)
      have B6 := Box.below B5 h6
      have hs7 := hs6.below h6
      have s3 := s2.below h6
      clear g5 B5 hs6 s1 s2 h6
      go_wp2_with fail
      refine (HK2.out _ s3).mono ?_
      rintro e w7 ⟨rfl, h7⟩
      have g7 := g6.trans (h7.mono g6.size)
      have B7 := Box.below B6 h7
      have hs8 := hs7.below h7
      clear g6 B6 hs7 s3 h7 HK1 HK2
      go_upto_region 18 with fail
      by_cases q1 : I64 (base + lows xs)
      · by_cases q2 : I64 (base + highs xs)
        · obtain ⟨e1, e2, e3⟩ := HW.out
          have ok : okW base xs = true := by simp [okW, fitB_true.2 q1, fitB_true.2 q2]
          have f1 : lo = base + lows xs := by rw [← e1]; simp [loW, ok]
          have f2 : hi = base + highs xs := by rw [← e2]; simp [hiW, ok]
          have f3 : er = 0 := by rw [← e3]; simp [erW, ok]
          clear e1 e2 e3 ok HW
          rw [(fit_yes q1).1, (fit_yes q1).2, (fit_yes q2).1, (fit_yes q2).2]
          have hb1 := lows_bd xs hx1
          have hbl : lo ≤ base := by omega
          have hbh : base ≤ hi := by omega
          subst f3
          rw [← f1, ← f2]
          rw [← f1] at q1
          rw [← f2] at q2
          have F1 : Hid (lo = base + lows xs) := f1
          have F2 : Hid (hi = base + highs xs) := f2
          clear f1 f2 hb1
          have HB7 : Hid (Box w7 w2.heap.size (.int .i64 lo) (.int .i64 hi)) := B7
          obtain ⟨z7, c0, c1, _, _⟩ := B7
          go_wp2_with (go_at_call 10; refine (num_any _ _).mono ?_; rintro e w' ⟨rfl, rfl⟩)
          refine (check_ok (Int.not_lt.2 (Int.le_trans hbl hbh)) _).mono ?_
          rintro e w8 ⟨rfl, h8⟩
          have g8 := g7.trans (h8.mono g7.size)
          have B8 := Box.below HB7.out h8
          have hs9 := hs8.below h8
          clear g7 HB7 hs8 h8 z7 c0 c1 hk hlt lm ln hz HB4 hs5 g4
          go_wp2_with (go_at_call 10; refine (num_any _ _).mono ?_; rintro e w' ⟨rfl, rfl⟩)
          go_loopw [18] (fun i wr => ∃ t : Nat, t ≤ 1024 ∧ i = .int .i64 t ∧ Below w0.heap.size w0 wr ∧ Box wr w2.heap.size (.int .i64 lo) (.int .i64 hi) ∧ Seen wr a xs) (fun i _ => 1024 - (intOf i).toNat)
          case atStart => exact ⟨0, by omega, rfl, g8, B8, hs9⟩
          case round =>
            clear g8 B8 hs9
            obtain ⟨t, ht, rfl, gr, Br, hsr⟩ := hrel
            by_cases hlt : t < 1024
            · go_upto_if 142 with fail
              go_cut [19] (fun s w' => (∃ z, s = .int .u64 z ∧ 0 ≤ z ∧ z ≤ 18446744073709551615) ∧ w' = wr)
              case first =>
                by_cases h23 : t = 1023
                · have hb23 : ((t : Int) == 1023) = true := by simp; omega
                  go_wp2_with fail
                  go_meet
                  exact ⟨⟨_, rfl, IntKind.wrap_u64 _ ▸ (by omega), IntKind.wrap_u64 _ ▸ (by omega)⟩, rfl⟩
                · have hb23 : ((t : Int) == 1023) = false := by simp; omega
                  go_wp2_with fail
                  go_meet
                  exact ⟨⟨_, rfl, by omega, by omega⟩, rfl⟩
              case rest =>
                obtain ⟨⟨z, hs19, hz0, hz1⟩, rfl⟩ := hcut
                rw [hs19]
                clear hs19
                obtain ⟨wo, hwo⟩ : ∃ wo : World, wo = wc := ⟨_, rfl⟩
                subst hwo
                go_wp2_with fail
                have L0 := Owns.lit wo base wo.heap.size (Nat.le_refl _)
                go_loopw [20, 21] (fun v i wq => ∃ (k : Nat) (ps : List Int), k ≤ xs.length ∧ i = .int .i64 k ∧ Owns wq wo.heap.size v ps ∧ All ps ∧ ps.length ≤ k + 1 ∧ base + lows (xs.take k) ≤ isum ps ∧ isum ps ≤ base + highs (xs.take k) ∧ Below wo.heap.size wo wq) (fun _ i _ => xs.length - (intOf i).toNat)
                case atStart =>
                  refine ⟨0, [base], Nat.zero_le _, rfl, L0, ?_, by simp, by simp [lows, isum], by simp [highs, isum], (Below.refl _ _).alloc (Nat.le_refl _) _⟩
                  intro y hy
                  simp at hy
                  rw [hy]
                  exact h0
                case round =>
                  clear L0
                  obtain ⟨k, ps, hk, rfl, O, ap, lp, s1, s2, hb⟩ := hrel
                  by_cases hkl : k < xs.length
                  · have hck : ∃ b off, a = some ⟨b, off, none⟩ ∧ wr.cell? ⟨b, off + k, none⟩ = some (.int .i64 xs[k]) := by
                      rcases hsr.below hb with hn | ⟨b, off, ea, hbl, hcell⟩
                      · simp [hn] at hkl
                      · exact ⟨b, off, ea, hcell k hkl⟩
                    obtain ⟨b, off, rfl, hck⟩ := hck
                    go_upto_region 32 with fail
                    go_cut [158] (fun s w' => (∃ q, s = .bool q) ∧ w' = wr)
                    case first =>
                      go_wp2_with fail
                      go_meet
                      exact ⟨⟨_, rfl⟩, rfl⟩
                    case rest =>
                      obtain ⟨⟨q, hs158⟩, hwc⟩ := hcut
                      subst hwc
                      rw [hs158]
                      clear hs158
                      have HO : Hid _ := out_step xs k hkl base (isum ps) s1 s2
                      have hxk := all_get hx1 k hkl
                      generalize xs[k] = x at *
                      have P1 : Hid (Owns wc wo.heap.size u20 ps) := O
                      clear O
                      cases q
                      · go_wp2_with fail
                        go_roundw
                        case rel =>
                          have ho := HO.out.1
                          first
                            | exact ⟨k + 1, ps, by omega, by go_num, P1.out, ap, by omega, ho.1, ho.2, hb⟩
                            | ((repeat apply Exists.intro); exact ⟨⟨k + 1, ps, by omega, by go_num, P1.out, ap, by omega, ho.1, ho.2, hb⟩, rfl⟩)
                        case measure => simp [intOf]; omega
                      · have hzs := hb.size
                        go_wp2_with (at_builtin; refine push_own rfl (.tmp 159) (.tmp 164) rfl wo.heap.size _ ps rfl ⟨wc.heap.size, 0, none⟩ x rfl (P1.out.alloc _) (by simp [go_sem]) ?c2 ?c3 ?_)
                        case c2 => first | omega | (simp; omega)
                        case c3 => first | omega | (simp; omega)
                        intro v' w' o1 r1 _
                        have hb' : Below wo.heap.size wo w' := (hb.alloc hzs _).trans (grown_below (P1.out.alloc _) (by simp; omega) r1)
                        have P2 : Hid (Owns w' wo.heap.size v' (ps ++ [x])) := o1
                        clear o1 r1 P1
                        go_wp2_with fail
                        go_roundw
                        case rel =>
                          have ho := HO.out.2
                          have es : isum (ps ++ [x]) = isum ps + x := by rw [isum_append]; simp [isum]
                          rw [← es] at ho
                          have aq : All (ps ++ [x]) := all_app ap (by intro y hy; simp at hy; rw [hy]; exact hxk)
                          have lq : (ps ++ [x]).length ≤ k + 1 + 1 := by simp; omega
                          first
                            | exact ⟨k + 1, ps ++ [x], by omega, by go_num, P2.out, aq, lq, ho.1, ho.2, hb'⟩
                            | ((repeat apply Exists.intro); exact ⟨⟨k + 1, ps ++ [x], by omega, by go_num, P2.out, aq, lq, ho.1, ho.2, hb'⟩, rfl⟩)
                        case measure => simp [intOf]; omega
                  · obtain rfl : k = xs.length := by omega
                    rw [List.take_length] at s1 s2
                    have t1 : lo ≤ isum ps := by have := F1.out; omega
                    have t2 : isum ps ≤ hi := by have := F2.out; omega
                    have t3 : I64 (isum ps) := by unfold I64 at q1 q2 ⊢; omega
                    clear s1 s2
                    obtain ⟨ap1, cp1, rfl, sp1, _, _⟩ := O.seen
                    have K1 := sum_any ps ap1 cp1 wr sp1 ap (by omega)
                    rw [(fit_yes t3).1, (fit_yes t3).2] at K1
                    have g9 := gr.trans (hb.mono gr.size)
                    have B9 := Br.below hb
                    have hs10 := hsr.below hb
                    clear O sp1 gr Br hsr hb t3
                    generalize isum ps = sp at *
                    go_wp2_with fail
                    refine K1.mono ?_
                    clear K1
                    rintro e w10 ⟨rfl, h10⟩
                    have g10 := g9.trans (h10.mono g9.size)
                    have B10 := B9.below h10
                    have hs11 := hs10.below h10
                    clear g9 B9 hs10 h10
                    have HB10 : Hid (Box w10 w2.heap.size (.int .i64 lo) (.int .i64 hi)) := B10
                    obtain ⟨z10, c0, c1, _, _⟩ := B10
                    go_wp2_with (go_at_call 10; refine (num_any _ _).mono ?_; rintro e w' ⟨rfl, rfl⟩)
                    refine (has_ok t1 t2 _).mono ?_
                    rintro e w11 ⟨rfl, h11⟩
                    have g11 := g10.trans (h11.mono g10.size)
                    have B11 := Box.below HB10.out h11
                    have hs12 := hs11.below h11
                    clear g10 HB10 hs11 h11 z10 c0 c1
                    go_upto_region 37 with fail
                    go_cut [190] (fun s w' => (∃ q, s = .bool q ∧ (q = true → t < 1023)) ∧ w' = w11)
                    case first =>
                      by_cases h23 : t < 1023
                      · have hd : decide ((t : Int) < 1023) = true := by simp; omega
                        go_wp2_with fail
                        all_goals
                          go_meet
                          exact ⟨⟨_, rfl, fun _ => h23⟩, rfl⟩
                      · have hd : decide ((t : Int) < 1023) = false := by simp; omega
                        go_wp2_with fail
                        go_meet
                        exact ⟨⟨_, rfl, nofun⟩, rfl⟩
                    case rest =>
                      obtain ⟨⟨q, hs190, hq⟩, hwc⟩ := hcut
                      subst hwc
                      rw [hs190]
                      clear hs190
                      cases q
                      · go_wp2_with fail
                        go_roundw
                        case rel =>
                          first
                            | exact ⟨t + 1, by omega, by go_num, g11, B11, hs12⟩
                            | ((repeat apply Exists.intro); exact ⟨⟨t + 1, by omega, by go_num, g11, B11, hs12⟩, rfl⟩)
                        case measure => simp [intOf]; omega
                      · have hq' := hq rfl
                        clear hq
                        go_wp2_with fail
                        go_roundw
                        case rel =>
                          first
                            | exact ⟨1023, by omega, by go_num, g11, B11, hs12⟩
                            | ((repeat apply Exists.intro); exact ⟨⟨1023, by omega, by go_num, g11, B11, hs12⟩, rfl⟩)
                        case measure => simp [intOf]; omega
            · obtain rfl : t = 1024 := by omega
              go_wp2_with fail
              go_ret
              exact ⟨rfl, gr⟩
        · obtain ⟨e1, e2, e3⟩ := HW.out
          have ok : okW base xs = false := by simp [okW, fitB_false.2 q2]
          have f1 : lo = 0 := by rw [← e1]; simp [loW, ok]
          have f2 : hi = 0 := by rw [← e2]; simp [hiW, ok]
          have f3 : er = 10 := by rw [← e3]; simp [erW, ok]
          clear e1 e2 e3 ok HW
          subst f1 f2 f3
          obtain ⟨z7, c0, c1, _, _⟩ := B7
          rw [(fit_yes q1).2, (fit_no q2).2]
          go_wp2_with (go_at_call 10; refine (num_any _ _).mono ?_; rintro e w' ⟨rfl, rfl⟩)
          go_ret
          exact ⟨rfl, g7⟩
      · obtain ⟨e1, e2, e3⟩ := HW.out
        have ok : okW base xs = false := by simp [okW, fitB_false.2 q1]
        have f1 : lo = 0 := by rw [← e1]; simp [loW, ok]
        have f2 : hi = 0 := by rw [← e2]; simp [hiW, ok]
        have f3 : er = 10 := by rw [← e3]; simp [erW, ok]
        clear e1 e2 e3 ok HW
        subst f1 f2 f3
        obtain ⟨z7, c0, c1, _, _⟩ := B7
        rw [(fit_no q1).2]
        go_wp2_with (go_at_call 10; refine (num_any _ _).mono ?_; rintro e w' ⟨rfl, rfl⟩)
        go_ret
        exact ⟨rfl, g7⟩
end Go.Proofs.Ytfoknkhbcnbdhaa
