import Derived.Test.YtpddmimacjknfaaTw18
namespace Go.Proofs.Ytpddmimacjknfaa
open Go.RowKit Go.QK
set_option maxRecDepth 100000

set_option maxHeartbeats 64000000 in
theorem law_own (a0 : Option Addr) (m0 c0 : Nat) (xs : List Nat) (w : World) (hxl : xs.length = m0) (hB : Bytes w a0 xs) (hm0 : m0 ≤ maxLen) :
    Calls Try.prog 3 #[.slice a0 m0 c0] w fun e w' => e = .returned (.bool true) ∧ Below w.heap.size w w' := by
  have KF := first_any w
  have HKP := hide (fun f w => page_any f w)
  have HX := hide hB
  have hm0' : (m0 : Int) ≤ 9223372036854775807 := by unfold maxLen at hm0; omega
  have HXL := hide hxl
  clear hB hm0 hxl
  go_enter Try.func3, Try.ntmps3
  go_wp2_with fail
  refine KF.mono ?_
  rintro e w1 ⟨rfl, b1⟩
  have B1 := hide b1
  have X1 := hide (Seen.below HX.out b1)
  have KS := store_any w1
  clear KF b1 HX
  go_wp2_with fail
  refine KS.mono ?_
  rintro e w2 ⟨d, S0, g0, rfl, L2, SH⟩
  have L2 := hide L2
  have SH := hide SH
  clear KS
  obtain ⟨w3, R3, O3, B3, Z3⟩ := makeB w2 1024 (by omega)
  have T3 : Tm w1 w3 (ext (fun _ => 0) w2.heap.size 1) 1 w2.heap.size (List.replicate 1024 0) := Tm.new O3 (Nat.le_refl _) L2.out.size
  obtain ⟨P, hP⟩ : ∃ P, P = w2.heap.size := ⟨_, rfl⟩
  have R4 : (Instr.makeSlice 22 (.int .i64 1024) (.int .i64 1024)).run Try.prog w2 = .ok (.slice (some ⟨P, 0, none⟩) 1024 1024) w3 := by rw [hP]; exact R3
  have OW0 := hide (show Ow w1 w3 (ext (fun _ => 0) w2.heap.size 1) S0 d P g0 (.slice none 0 0) (.slice none 0 0) [] (fun _ => []) [] (List.replicate 1024 0) from ⟨L2.out.below B3, fun b hb => ext_old (L2.out.dev.lt b hb), by rw [hP]; exact T3.own, by rw [hP]; exact T3.lb, SRow.nil _ _ _, nofun, SRow.nil _ _ _, nofun, nofun⟩)
  have RW0 := hide (show Rw 0 g0 (fun i => pageB (5 + 2 * i)) [] (fun _ => []) [] (List.replicate 1024 0) from ⟨SH.out.four, SH.out.left, SH.out.calls, rfl, rfl, nofun, nofun, List.length_replicate⟩)
  clear R3 O3 B3 Z3 T3 hP L2 SH
  go_wp2_with fail
  clear R4
  go_loopw [5, 6, 8] (fun gv wv iv wr => ∃ (i n : Nat) (ga : Option Addr) (gc : Nat) (wa : Option Addr) (wc : Nat) (lab : Nat → Nat) (S : Nat → Prop) (g : Dev) (pg : Nat → List Nat) (ks : List Nat) (c : Nat → List Nat) (ps : List (List Nat)) (pl : List Nat), gv = .slice ga n gc ∧ wv = .slice wa n wc ∧ iv = .int .i64 (i : Int) ∧ n = 2 * i ∧ i ≤ 20 ∧ Ow w1 wr lab S d P g (.slice ga n gc) (.slice wa n wc) ks c ps pl ∧ Rw i g pg ks c ps pl) (fun _ _ iv _ => (30 - (intOf iv).toNat))
  case atStart => exact ⟨0, 0, none, 0, none, 0, _, S0, g0, _, [], _, [], _, rfl, rfl, rfl, rfl, by decide, OW0.out, RW0.out⟩
  case round =>
    obtain ⟨i, n, ga, gc, wa, wc, lab, S, g, pg, ks, c, ps, pl, rfl, rfl, rfl, hn, hi20, hO, hR⟩ := hrel
    have HO := hide hO
    have HR := hide hR
    have HN := hide hn
    clear hO hR hn OW0 RW0
    go_upto_region 10 with fail
    go_cut [44] from 37 to 127 (fun s w' => s = .bool (decide (i < m0 ∧ i < 20)) ∧ w' = wr)
    case first =>
      by_cases h1 : i < m0
      · have d1 : decide ((i : Int) < (m0 : Int)) = true := by simp; omega
        by_cases h2 : i < 20
        · have d2 : decide ((i : Int) < 20) = true := by simp; omega
          go_wp2_with fail
          go_meet
          exact ⟨by simp [h1, h2], rfl⟩
        · have d2 : decide ((i : Int) < 20) = false := by simp; omega
          go_wp2_with fail
          go_meet
          exact ⟨by simp [h2], rfl⟩
      · have d1 : decide ((i : Int) < (m0 : Int)) = false := by simp; omega
        go_wp2_with fail
        go_meet
        exact ⟨by simp [h1], rfl⟩
    case rest =>
    obtain ⟨hs44, hwc⟩ := hcut
    have hwc := hwc.symm
    subst hwc
    rw [hs44]
    clear hs44
    by_cases hlt : i < m0 ∧ i < 20
    · rw [decide_eq_true hlt]
      have X2 := hide (Seen.below X1.out HO.out.live.bel)
      obtain ⟨bk, o, ea, hbk, hcl⟩ := Bytes.at X2.out (i := i) (by rw [HXL.out]; exact hlt.1)
      subst ea
      obtain ⟨f, hf⟩ : ∃ f : Nat, f = xs.getD i 0 := ⟨_, rfl⟩
      rw [← hf] at hcl
      clear hf X2
      go_wp2_with fail
      refine (HKP.out f wr).mono ?_
      rintro e w4 ⟨gb, rfl, hg, o4, b4⟩
      have O4 := hide (HO.out.below b4 6)
      have T4 := hide (show Tm w1 w4 (ext lab wr.heap.size 6) 6 gb (pageB f) from Tm.new o4 hg HO.out.live.size)
      have hPL := pageB_length f
      have hPA := pageB_allB f
      obtain ⟨PB, hPB⟩ : ∃ p, p = pageB f := ⟨_, rfl⟩
      rw [← hPB] at T4 hPL hPA
      obtain ⟨lab4, hlab4⟩ : ∃ l, l = ext lab wr.heap.size 6 := ⟨_, rfl⟩
      rw [← hlab4] at O4 T4
      have HPL := hide hPL
      have HPA := hide hPA
      clear hPB hPL hPA o4 hg b4 HO hcl hlab4
      go_wp2_with fail
      go_loopw [10] (fun kv wQ => ∃ k : Nat, kv = .int .i64 (k : Int) ∧ k ≤ 1024 ∧ OwnB wQ w1.heap.size (pv P) (PB.take k ++ pl.drop k) ∧ Keep (fun b => b = P) w4 wQ) (fun kv _ => (1025 - (intOf kv).toNat))
      case atStart => exact ⟨0, rfl, Nat.zero_le _, O4.out.place, Keep.refl _ _⟩
      case round =>
        obtain ⟨k, rfl, hk, ho, hkk⟩ := hrel
        have HQ := hide ho
        have HK := hide hkk
        clear ho hkk
        by_cases hk1 : k < 1024
        · have dk : decide ((k : Int) < 1024) = true := by simp; omega
          have TQ := T4.out.lay O4.out HK.out (by decide)
          obtain ⟨b0, o0, e0, _, hcb⟩ := Bytes.at (Owns.seen_at TQ.own) (i := k) (by rw [HPL.out]; exact hk1)
          cases e0
          rw [Nat.zero_add] at hcb
          have hlm : (PB.take k ++ pl.drop k).length = 1024 := by rw [List.length_append, List.length_take, List.length_drop, HPL.out, HR.out.pll]; omega
          obtain ⟨b0, o0, e0, _, hcp⟩ := Bytes.at (Owns.seen_at HQ.out) (i := k) (by rw [hlm]; exact hk1)
          cases e0
          rw [Nat.zero_add] at hcp
          have hfr := Owns.frozen HQ.out k
          have hmx := hide (set_mix PB pl k (by rw [HPL.out]; exact hk1) (by rw [HPL.out, HR.out.pll]))
          clear TQ hlm
          go_wp2_with fail
          go_roundw
          case rel =>
            refine ⟨k + 1, by go_num, by omega, ?_, HK.out.setCell (fun _ => rfl) _⟩
            have q := Owns.stored HQ.out k ((PB.getD k 0 : Nat) : Int)
            rw [← ints_set', hmx.out] at q
            exact q
          case measure => simp [intOf]; omega
        · obtain rfl : k = 1024 := by omega
          have dk : decide (((1024 : Nat) : Int) < 1024) = false := by decide
          have ho : OwnB wr w1.heap.size (pv P) PB := by
            have q := HQ.out
            rw [List.take_of_length_le (by rw [HPL.out]; decide), List.drop_of_length_le (by rw [HR.out.pll]; decide), List.append_nil] at q
            exact q
          have O5 := hide (O4.out.lay HK.out ho)
          have T5 := hide (T4.out.lay O4.out HK.out (by decide))
          clear HQ HK O4 T4 ho
          have KH := homeOf_any (i : Int) wr
          rw [bring_nat] at KH
          obtain ⟨jj, hjj⟩ : ∃ j, j = i % 4 := ⟨_, rfl⟩
          rw [← hjj] at KH
          have hj4 : jj < 4 := by omega
          obtain ⟨H, hH⟩ : ∃ H, H = 5 + 2 * jj := ⟨_, rfl⟩
          rw [← hH] at KH
          have HJ := hide hjj
          have HH := hide hH
          clear hjj hH
          go_wp2_with fail
          refine KH.mono ?_
          rintro e wr' ⟨rfl, hw5⟩
          obtain rfl : wr = wr' := hw5.symm
          clear hw5 KH
          obtain ⟨t1, t2, t3, t4⟩ := HR.out.four.wrote HR.out.left jj hj4 PB HPL.out HPA.out
          rw [← HH.out] at t1 t2 t3 t4
          have KW := write_twin O5.out.live.dev 2 (H : Int) (some ⟨P, 0, none⟩) PB 1024 (Owns.seen_at O5.out.place) (fun ad e => by cases e; intro q; have := O5.out.l0 P q; have := O5.out.l1; omega) (by rw [HPL.out]; decide) HPA.out (by rw [HR.out.four.run.pend]; decide) (by rw [HR.out.calls]; omega)
          rw [t1, HPL.out] at KW
          have F6 := hide t2
          have C6 := hide t3
          have Lf6 := hide t4
          clear t1 t2 t3 t4
          generalize g.twD 2 (H : Int) PB = g6 at *
          go_wp2_with fail
          refine KW.mono ?_
          rintro e w6 ⟨S6, v6, rfl, t6, p6, s6⟩
          rcases t6 with ⟨_, rfl⟩ | ⟨q, _⟩
          rotate_left
          · exact absurd rfl q
          have O6 := hide (O5.out.step p6 s6)
          have T6 := hide (T5.out.step O5.out s6 (by decide))
          obtain ⟨lab6, hlab6⟩ : ∃ l, l = ext lab4 wr.heap.size 0 := ⟨_, rfl⟩
          rw [← hlab6] at O6 T6
          clear KW p6 s6 O5 T5 hlab6
          go_wp2_with fail
          go_loopw [13] (fun kv wP => ∃ k : Nat, kv = .int .i64 (k : Int) ∧ k ≤ 1024 ∧ OwnB wP w1.heap.size (pv P) ((List.replicate 1024 85).take k ++ PB.drop k) ∧ Keep (fun b => b = P) w6 wP) (fun kv _ => (1025 - (intOf kv).toNat))
          case atStart => exact ⟨0, rfl, Nat.zero_le _, O6.out.place, Keep.refl _ _⟩
          case round =>
            obtain ⟨k, rfl, hk, ho, hkk⟩ := hrel
            have HQ := hide ho
            have HK := hide hkk
            clear ho hkk
            by_cases hk1 : k < 1024
            · have dk : decide ((k : Int) < 1024) = true := by simp; omega
              have hlm : ((List.replicate 1024 85).take k ++ PB.drop k).length = 1024 := by rw [List.length_append, List.length_take, List.length_drop, HPL.out, List.length_replicate]; omega
              obtain ⟨b0, o0, e0, _, hcp⟩ := Bytes.at (Owns.seen_at HQ.out) (i := k) (by rw [hlm]; exact hk1)
              cases e0
              rw [Nat.zero_add] at hcp
              have hfr := Owns.frozen HQ.out k
              have hmx := set_mix (List.replicate 1024 85) PB k (by rw [List.length_replicate]; exact hk1) (by rw [HPL.out, List.length_replicate])
              rw [show (List.replicate 1024 85).getD k 0 = 85 by rw [List.getD_eq_getElem?_getD, List.getElem?_replicate, if_pos hk1]; rfl] at hmx
              have hmx := hide hmx
              clear hlm
              go_wp2_with fail
              go_roundw
              case rel =>
                refine ⟨k + 1, by go_num, by omega, ?_, HK.out.setCell (fun _ => rfl) _⟩
                have q := Owns.stored HQ.out k ((85 : Nat) : Int)
                rw [← ints_set', hmx.out] at q
                exact q
              case measure => simp [intOf]; omega
            · obtain rfl : k = 1024 := by omega
              have dk : decide (((1024 : Nat) : Int) < 1024) = false := by decide
              have O7 := hide (O6.out.lay HK.out HQ.out)
              have T7 := hide (T6.out.lay O6.out HK.out (by decide))
              have hpl7 : ((List.replicate 1024 85).take 1024 ++ PB.drop 1024).length = 1024 := by rw [List.length_append, List.length_take, List.length_drop, HPL.out, List.length_replicate]; decide
              obtain ⟨pl7, hpl7e⟩ : ∃ p, p = (List.replicate 1024 85).take 1024 ++ PB.drop 1024 := ⟨_, rfl⟩
              rw [← hpl7e] at O7 hpl7
              have HP7 := hide hpl7
              clear HQ HK O6 T6 hpl7 hpl7e
              have RR := F6.out.read jj hj4
              rw [show updP pg jj PB jj = PB by unfold updP; rw [if_pos rfl], ← HH.out] at RR
              have KR := read_twin O7.out.live.dev (H : Int) (by rw [F6.out.run.pend]; decide)
              rw [RR.1, RR.2] at KR
              go_wp2_with fail
              refine KR.mono ?_
              rintro e w8 ⟨v8, x8, rfl, t8, o8, b8⟩
              rcases t8 with ⟨_, rfl⟩ | ⟨q, _⟩
              rotate_left
              · exact absurd rfl q
              rcases o8 with ⟨q, _⟩ | ⟨_, _, gx, rfl, hgx, o8⟩
              · exact absurd rfl q
              have O8 := hide (O7.out.below b8 (10 + n))
              have T8 := hide (T7.out.below b8 (10 + n))
              have TX8 := hide (show Tm w1 w8 (ext lab6 wr.heap.size (10 + n)) (10 + n) gx PB from Tm.new o8 hgx O7.out.live.size)
              obtain ⟨lab8, hlab8⟩ : ∃ l, l = ext lab6 wr.heap.size (10 + n) := ⟨_, rfl⟩
              rw [← hlab8] at O8 T8 TX8
              have KR := read_twin O8.out.live.dev (H : Int) (by rw [F6.out.run.pend]; decide)
              rw [RR.1, RR.2] at KR
              clear o8 b8 hgx O7 T7 hlab8
              go_wp2_with fail
              refine KR.mono ?_
              rintro e w9 ⟨v9, x9, rfl, t9, o9, b9⟩
              rcases t9 with ⟨_, rfl⟩ | ⟨q, _⟩
              rotate_left
              · exact absurd rfl q
              rcases o9 with ⟨q, _⟩ | ⟨_, _, gy, rfl, hgy, o9⟩
              · exact absurd rfl q
              have O9 := hide (O8.out.below b9 (10 + (n + 1)))
              have T9 := hide (T8.out.below b9 (10 + (n + 1)))
              have TX9 := hide (TX8.out.below b9 (10 + (n + 1)))
              have TY9 := hide (show Tm w1 w9 (ext lab8 w8.heap.size (10 + (n + 1))) (10 + (n + 1)) gy PB from Tm.new o9 hgy O8.out.live.size)
              obtain ⟨lab9, hlab9⟩ : ∃ l, l = ext lab8 w8.heap.size (10 + (n + 1)) := ⟨_, rfl⟩
              rw [← hlab9] at O9 T9 TX9 TY9
              have cB := T9.out.conv HPL.out
              have cX := TX9.out.conv HPL.out
              have cY := TY9.out.conv HPL.out
              have hkn : ks.length = n := by rw [HR.out.kl, HN.out]
              obtain ⟨SP, hSP⟩ : ∃ q, q = strOf PB := ⟨_, rfl⟩
              rw [← hSP] at cB cX cY
              clear o9 b9 hgy O8 T8 TX8 hlab9 KR RR
              -- the two rows grow
              have bA := alloc_below w9 (.cells #[pv gx, pv gy] 22)
              obtain ⟨v10, w10, r10, s10, g10, m10⟩ := run_pushV und27 info22 rfl (by decide) 27 (w9.alloc (.cells #[pv gx, pv gy] 22)) w1.heap.size (.slice ga n gc) (ks.map pv) ⟨w9.heap.size, 0, none⟩ [pv gx, pv gy] 2 rfl (O9.out.got.below bA) (by
                intro j u hj
                rw [addr_add, Nat.zero_add, World.cell?_alloc_new]
                simpa using hj) (by intro u hu; simp at hu; rcases hu with rfl | rfl <;> rfl) (by rw [List.length_map, hkn]; have := HN.out; omega) (by have := O9.out.live.size; rw [World.size_alloc]; omega)
              have O10 := hide (O9.out.push TX9.out.own (by rw [TX9.out.lb, hkn]) TY9.out.own (by rw [TY9.out.lb, hkn]) s10 g10 m10 (putC c n PB) (fun q hq => by unfold putC; rw [if_pos (by omega)]) (by unfold putC; rw [if_neg (by omega)]) (by unfold putC; rw [if_neg (by omega)]))
              have T10 := hide (T9.out.push O9.out g10 (by decide))
              obtain ⟨ga', gc', e10, _⟩ := s10.form
              have hn2 : (ks.map pv ++ [pv gx, pv gy]).length = n + 2 := by rw [List.length_append, List.length_map, hkn]; rfl
              rw [hn2] at e10
              subst e10
              obtain ⟨lab10, hlab10⟩ : ∃ l, l = ext lab9 w9.heap.size 2 := ⟨_, rfl⟩
              rw [← hlab10] at O10 T10
              have cB10 := T10.out.conv HPL.out
              rw [← hSP] at cB10
              have bA2 := alloc_below w10 (.cells #[.string SP, .string SP] 9)
              have hpn : ps.length = n := by rw [HR.out.psl, HN.out]
              obtain ⟨v11, w11, r11, s11, g11, m11⟩ := run_pushV und28 info9 rfl (by decide) 28 (w10.alloc (.cells #[.string SP, .string SP] 9)) w1.heap.size (.slice wa n wc) (ps.map sv) ⟨w10.heap.size, 0, none⟩ [.string SP, .string SP] 2 rfl (O10.out.was.below bA2) (by
                intro j u hj
                rw [addr_add, Nat.zero_add, World.cell?_alloc_new]
                simpa using hj) (by intro u hu; simp at hu; rcases hu with rfl | rfl <;> rfl) (by rw [List.length_map, hpn]; have := HN.out; omega) (by have := O10.out.live.size; rw [World.size_alloc]; omega)
              have s11' : SRow 9 w11 w1.heap.size v11 ((ps ++ [PB, PB]).map sv) := by
                rw [List.map_append]
                have : [PB, PB].map sv = [.string SP, .string SP] := by rw [hSP]; rfl
                rw [this]
                exact s11
              have O11 := hide (O10.out.note s11' g11 m11)
              obtain ⟨wa', wc', e11, _⟩ := s11'.form
              have hn3 : ((ps ++ [PB, PB]).map sv).length = n + 2 := by rw [List.length_map, List.length_append, hpn]; rfl
              rw [hn3] at e11
              subst e11
              have R11 := hide (HR.out.next HPL.out (by rw [← HJ.out]; exact F6.out) C6.out Lf6.out gx gy pl7 HP7.out)
              rw [← HN.out] at R11
              have HR10 := hide r10
              have HR11 := hide r11
              clear r10 r11 s10 s11 s11' g10 g11 m10 m11 bA bA2 hn2 hn3 hkn hpn hlab10 O9 T9 TX9 TY9 O10 T10 hSP
              go_wp2_with (at_builtin; first | refine wpList_run rfl (.tmp 116) (.tmp 119) rfl rfl rfl HR10.out ?_ | refine wpList_run rfl (.tmp 121) (.tmp 126) rfl rfl rfl HR11.out ?_)
              go_roundw
              case rel => exact ⟨i + 1, n + 2, ga', gc', wa', wc', _, S6, g6, _, _, _, _, pl7, rfl, rfl, by go_num, by have := HN.out; omega, by omega, O11.out, R11.out⟩
              case measure => simp [intOf]; omega
    · have OW1 := hide HO.out
      have RW1 := hide HR.out
      rw [decide_eq_false hlt]
      clear HO HR hlt
      have hnk : ks.length = n := by rw [RW1.out.kl, HN.out]
      have hnp : ps.length = n := by rw [RW1.out.psl, HN.out]
      have hn40 : n ≤ 40 := by have := HN.out; omega
      have HNK := hide hnk
      have HNP := hide hnp
      have HEQ := hide (show ∀ j, j < n → c j = ps.getD j [] ∧ (c j).length = 1024 from fun j hj => RW1.out.eq j (by rw [← HN.out]; exact hj))
      clear hnk hnp
      go_wp2_with fail
      go_loopw [19] (fun jv wx => ∃ j : Nat, jv = .int .i64 (j : Int) ∧ j ≤ n ∧ Ow w1 wx lab S d P g (.slice ga n gc) (.slice wa n wc) ks c ps pl) (fun jv _ => (50 - (intOf jv).toNat))
      case atStart => exact ⟨0, rfl, Nat.zero_le _, OW1.out⟩
      case round =>
        obtain ⟨j, rfl, hjn, hO⟩ := hrel
        have HO := hide hO
        clear hO OW1
        by_cases hj : j < n
        · have dj : decide ((j : Int) < (n : Int)) = true := by simp; omega
          have DR : Below wr.heap.size wr wr.drew := (Below.refl _ _).drew
          have O2 := HO.out.quiet DR
          obtain ⟨bg, eg, _, cg⟩ := O2.got.cell j (by rw [List.length_map, HNK.out]; exact hj)
          obtain ⟨bw, ew, _, cw⟩ := O2.was.cell j (by rw [List.length_map, HNP.out]; exact hj)
          rw [List.getElem_map] at cg cw
          have hp := O2.pg j (by rw [HNK.out]; exact hj)
          have hcv := conv_any (some ⟨ks[j]'(by rw [HNK.out]; exact hj), 0, none⟩) (c j) 1024 wr.drew (Owns.seen_at hp.1)
          obtain ⟨q1, q2⟩ := HEQ.out j hj
          have q3 : ps.getD j [] = ps[j]'(by rw [HNP.out]; exact hj) := by rw [List.getD_eq_getElem?_getD, List.getElem?_eq_getElem (by rw [HNP.out]; exact hj)]; rfl
          rw [q2] at hcv
          rw [q1, q3] at hcv
          obtain ⟨SJ, hSJ⟩ : ∃ q, q = strOf (ps[j]'(by rw [HNP.out]; exact hj)) := ⟨_, rfl⟩
          obtain ⟨kj, hkj⟩ : ∃ q, q = ks[j]'(by rw [HNK.out]; exact hj) := ⟨_, rfl⟩
          rw [← hSJ] at hcv
          rw [← hkj] at hcv cg
          unfold sv at cw
          rw [← hSJ] at cw
          have O2 := hide O2
          clear q1 q2 q3 hp HO hSJ hkj
          subst eg
          subst ew
          go_upto_region 33 with fail
          refine wp_region_held_drew (S := fun wq => wq.cell? ⟨bg, j, none⟩ = some (pv kj) ∧ wq.cell? ⟨bw, j, none⟩ = some (.string SJ) ∧ (convert 22 9 (pv kj)).run Try.prog wq = .ok (.string SJ) wq) (by kernel_rfl) ⟨cg, cw, hcv⟩ (fun hS => ?_)
          clear DR cg cw hcv
          generalize wr.drew = w20 at *
          refine take_at 0 (some 134) (v := ?_) rfl rfl (by kernel_rfl) (by kernel_rfl) (by kernel_rfl) (fun _ _ _ h => h) ⟨by rfl, ?_⟩ hS ?_
          rotate_left
          · intro wq hSw; obtain ⟨y0, y1, y2⟩ := hSw; go_simp; (try rw [if_pos (by omega)]); try rfl
          simp only [Act.put, List.setIfInBounds_toArray, List.set_cons_zero, List.set_cons_succ]
          refine take_at 1 (some 135) (v := ?_) rfl rfl (by kernel_rfl) (by kernel_rfl) (by kernel_rfl) (fun _ _ _ h => h) ⟨by rfl, ?_⟩ hS ?_
          rotate_left
          · intro wq hSw; obtain ⟨y0, y1, y2⟩ := hSw; go_simp; (try rw [if_pos (by omega)]); try rfl
          simp only [Act.put, List.setIfInBounds_toArray, List.set_cons_zero, List.set_cons_succ]
          refine take_at 2 (some 136) (v := ?_) rfl rfl (by kernel_rfl) (by kernel_rfl) (by kernel_rfl) (fun _ _ _ h => h) ⟨by rfl, ?_⟩ hS ?_
          rotate_left
          · intro wq hSw; obtain ⟨y0, y1, y2⟩ := hSw; go_simp; (try rw [if_pos (by omega)]); try rfl
          simp only [Act.put, List.setIfInBounds_toArray, List.set_cons_zero, List.set_cons_succ]
          refine take_at 3 (some 137) (v := ?_) rfl rfl (by kernel_rfl) (by kernel_rfl) (by kernel_rfl) (fun _ _ _ h => h) ⟨by rfl, ?_⟩ hS ?_
          rotate_left
          · intro wq hSw; obtain ⟨y0, y1, y2⟩ := hSw; go_simp; (try rw [if_pos (by omega)]); try rfl
          simp only [Act.put, List.setIfInBounds_toArray, List.set_cons_zero, List.set_cons_succ]
          refine take_at 4 (some 138) (v := ?_) rfl rfl (by kernel_rfl) (by kernel_rfl) (by kernel_rfl) (fun _ _ _ h => h) ⟨by rfl, ?_⟩ hS ?_
          rotate_left
          · intro wq hSw; obtain ⟨y0, y1, y2⟩ := hSw; go_simp; (try rw [if_pos (by omega)]); try rfl
          simp only [Act.put, List.setIfInBounds_toArray, List.set_cons_zero, List.set_cons_succ]
          refine take_at 5 (some 139) (v := ?_) rfl rfl (by kernel_rfl) (by kernel_rfl) (by kernel_rfl) (fun _ _ _ h => h) ⟨by rfl, ?_⟩ hS ?_
          rotate_left
          · intro wq hSw; obtain ⟨y0, y1, y2⟩ := hSw; go_simp; (try rw [if_pos (by omega)]); try rfl
          simp only [Act.put, List.setIfInBounds_toArray, List.set_cons_zero, List.set_cons_succ]
          refine take_at 6 (some 140) (v := ?_) rfl rfl (by kernel_rfl) (by kernel_rfl) (by kernel_rfl) (fun _ _ _ h => h) ⟨by rfl, ?_⟩ hS ?_
          rotate_left
          · intro wq hSw; obtain ⟨y0, y1, y2⟩ := hSw; go_simp; (try rw [if_pos (by omega)]); try rfl
          simp only [Act.put, List.setIfInBounds_toArray, List.set_cons_zero, List.set_cons_succ]
          refine take_at 7 (some 141) (v := ?_) rfl rfl (by kernel_rfl) (by kernel_rfl) (by kernel_rfl) (fun _ _ _ h => h) ⟨by rfl, ?_⟩ hS ?_
          rotate_left
          · intro wq hSw; obtain ⟨y0, y1, y2⟩ := hSw; go_simp; (try rw [if_pos (by omega)]); try rfl
          simp only [Act.put, List.setIfInBounds_toArray, List.set_cons_zero, List.set_cons_succ]
          refine take_at 8 (some 142) (v := ?_) rfl rfl (by kernel_rfl) (by kernel_rfl) (by kernel_rfl) (fun _ _ _ h => h) ⟨by rfl, ?_⟩ hS ?_
          rotate_left
          · intro wq hSw; obtain ⟨y0, y1, y2⟩ := hSw; go_simp; (try rw [if_pos (by omega)]); try rfl
          simp only [Act.put, List.setIfInBounds_toArray, List.set_cons_zero, List.set_cons_succ]
          refine take_at 9 (some 143) (v := ?_) rfl rfl (by kernel_rfl) (by kernel_rfl) (by kernel_rfl) (fun _ _ _ h => h) ⟨by rfl, ?_⟩ hS ?_
          rotate_left
          · intro wq hSw; obtain ⟨y0, y1, y2⟩ := hSw; go_simp; (try rw [if_pos (by omega)]); try rfl
          simp only [Act.put, List.setIfInBounds_toArray, List.set_cons_zero, List.set_cons_succ]

          refine wpAnyH_done (by kernel_rfl) ?_ _
          go_wp2_with fail
          go_roundw
          case rel => exact ⟨j + 1, by go_num, by omega, O2.out⟩
          case measure => simp [intOf]; omega
        · obtain rfl : n = j := by omega
          clear hjn hj
          go_wp2_with fail
          go_loopw [20] (fun jv wx => ∃ (j5 : Nat) (c' : Nat → List Nat), jv = .int .i64 (j5 : Int) ∧ j5 ≤ n ∧ Ow w1 wx lab S d P g (.slice ga n gc) (.slice wa n wc) ks c' ps pl ∧ (∀ q, q < j5 → c' q = List.replicate 1024 q) ∧ (∀ q, q < n → (c' q).length = 1024)) (fun jv _ => (50 - (intOf jv).toNat))
          case atStart => exact ⟨0, c, rfl, Nat.zero_le _, HO.out, nofun, fun q hq => (HEQ.out q hq).2⟩
          case round =>
            obtain ⟨j, c', rfl, hjn, hO, hc1, hc2⟩ := hrel
            have HO5 := hide hO
            have HC1 := hide hc1
            have HC2 := hide hc2
            clear hO hc1 hc2 HO
            by_cases hj : j < n
            · have dj : decide ((j : Int) < (n : Int)) = true := by simp; omega
              have hjl : Hid (j < ks.length) := hide (by rw [HNK.out]; exact hj)
              obtain ⟨w21, hw21⟩ : ∃ q, q = wr := ⟨_, rfl⟩
              rw [← hw21] at HO5 ⊢
              clear hw21
              go_wp2_with fail
              go_loopw [21] (fun kv wy => ∃ k : Nat, kv = .int .i64 (k : Int) ∧ k ≤ 1024 ∧ Ow w1 wy lab S d P g (.slice ga n gc) (.slice wa n wc) ks (updC c' j ((List.replicate 1024 j).take k ++ (c' j).drop k)) ps pl) (fun kv _ => (1025 - (intOf kv).toNat))
              case atStart =>
                refine ⟨0, rfl, Nat.zero_le _, ?_⟩
                have e : updC c' j ((List.replicate 1024 j).take 0 ++ (c' j).drop 0) = c' := by
                  funext q
                  unfold updC
                  by_cases e : q = j
                  · subst e; rw [if_pos rfl, List.take_zero, List.drop_zero, List.nil_append]
                  · rw [if_neg e]
                rw [e]
                exact HO5.out
              case round =>
                obtain ⟨k, rfl, hk, hO6⟩ := hrel
                have HO6 := hide hO6
                obtain ⟨bg, eg, _, cg⟩ := hO6.got.cell j (by rw [List.length_map]; exact hjl.out)
                rw [List.getElem_map] at cg
                have hp := (hO6.pg j hjl.out).1
                have hu : updC c' j ((List.replicate 1024 j).take k ++ (c' j).drop k) j = (List.replicate 1024 j).take k ++ (c' j).drop k := by unfold updC; rw [if_pos rfl]
                rw [hu] at hp
                have HJK := hide (fun (w' : World) (hk : Keep (fun b => b = ks[j]'hjl.out) wr w') => Ow.mark hO6 j hjl.out hk)
                obtain ⟨kj, hkj⟩ : ∃ q, q = ks[j]'hjl.out := ⟨_, rfl⟩
                rw [← hkj] at cg hp HJK
                have HP := hide hp
                subst eg
                clear hO6 hp hu hkj
                by_cases hk1 : k < 1024
                · have dk : decide ((k : Int) < 1024) = true := by simp; omega
                  have hlm : ((List.replicate 1024 j).take k ++ (c' j).drop k).length = 1024 := by rw [List.length_append, List.length_take, List.length_drop, HC2.out j hj, List.length_replicate]; omega
                  obtain ⟨b0, o0, e0, _, hcp⟩ := Bytes.at (Owns.seen_at HP.out) (i := k) (by rw [hlm]; exact hk1)
                  cases e0
                  rw [Nat.zero_add] at hcp
                  have hfr := Owns.frozen HP.out k
                  have hmx := set_mix (List.replicate 1024 j) (c' j) k (by rw [List.length_replicate]; exact hk1) (by rw [HC2.out j hj, List.length_replicate])
                  rw [rep_getD 1024 j k hk1] at hmx
                  have hmx := hide hmx
                  have hj256 : (j : Int) % 256 = (j : Int) := by omega
                  have hj256' : IntKind.u8.wrap (j : Int) = (j : Int) := by rw [IntKind.wrap_u8]; omega
                  clear hlm
                  go_wp2_with fail
                  go_roundw
                  case rel =>
                    refine ⟨k + 1, by go_num, by omega, ?_⟩
                    have q := Owns.stored HP.out k ((j : Nat) : Int)
                    rw [← ints_set', hmx.out] at q
                    refine HJK.out _ ((Keep.refl (fun b => b = kj) wr).setCell (fun _ => rfl) _) _ ?_ (fun r hr => ?_)
                    · unfold updC; rw [if_pos rfl]; exact q
                    · unfold updC; rw [if_neg hr, if_neg hr]
                  case measure => simp [intOf]; omega
                · obtain rfl : k = 1024 := by omega
                  have dk : decide (((1024 : Nat) : Int) < 1024) = false := by decide
                  have O7 := hide HO6.out
                  rw [List.take_of_length_le (by rw [List.length_replicate]; decide), List.drop_of_length_le (by rw [HC2.out j hj]; decide), List.append_nil] at O7
                  clear HO6 HP HJK
                  go_wp2_with fail
                  go_roundw
                  case rel =>
                    have NXT := (show (∀ q, q < j + 1 → updC c' j (List.replicate 1024 j) q = List.replicate 1024 q) ∧ (∀ q, q < n → (updC c' j (List.replicate 1024 j) q).length = 1024) from ⟨fun q hq => by
                      unfold updC
                      by_cases e : q = j
                      · rw [if_pos e, e]
                      · rw [if_neg e]; exact HC1.out q (by omega), fun q hq => by
                      unfold updC
                      by_cases e : q = j
                      · rw [if_pos e, List.length_replicate]
                      · rw [if_neg e]; exact HC2.out q hq⟩)
                    first | exact ⟨j + 1, _, by go_num, by omega, O7.out, NXT.1, NXT.2⟩ | ((repeat apply Exists.intro); exact ⟨⟨j + 1, _, by go_num, by omega, O7.out, NXT.1, NXT.2⟩, rfl⟩)
                  case measure => simp [intOf]; omega
            · obtain rfl : n = j := by omega
              clear hjn hj HC2
              go_wp2_with fail
              go_loopw [18, 22] (fun mv jv wx => ∃ (j : Nat) (ma : Option Addr) (mc : Nat) (lab' : Nat → Nat) (ms : List (Nat × Nat)), mv = .slice ma j mc ∧ jv = .int .i64 (j : Int) ∧ j ≤ n ∧ ms.length = j ∧ Ow w1 wx lab' S d P g (.slice ga n gc) (.slice wa n wc) ks c' ps pl ∧ Mo w1 wx lab' (.slice ma j mc) ms) (fun _ jv _ => (50 - (intOf jv).toNat))
              case atStart => exact ⟨0, none, 0, lab, [], rfl, rfl, Nat.zero_le _, rfl, HO5.out, SRow.nil _ _ _, nofun, nofun⟩
              case round =>
                obtain ⟨j, ma, mc, lab7, ms, rfl, rfl, hjn, hml, hO, hM⟩ := hrel
                have HO7 := hide hO
                have HM := hide hM
                have HML := hide hml
                clear hO hM hml HO5
                by_cases hj : j < n
                · have dj : decide ((j : Int) < (n : Int)) = true := by simp; omega
                  have hjl : Hid (j < ks.length) := hide (by rw [HNK.out]; exact hj)
                  obtain ⟨w22, hw22⟩ : ∃ q, q = wr := ⟨_, rfl⟩
                  rw [← hw22] at HO7 HM ⊢
                  clear hw22
                  obtain ⟨bg, eg, _, cg⟩ := HO7.out.got.cell j (by rw [List.length_map]; exact hjl.out)
                  rw [List.getElem_map] at cg
                  have hp := (HO7.out.pg j hjl.out).1
                  rw [HC1.out j hj] at hp
                  obtain ⟨kj, hkj⟩ : ∃ q, q = ks[j]'hjl.out := ⟨_, rfl⟩
                  rw [← hkj] at cg hp
                  subst eg
                  have hsz := HO7.out.live.size
                  have bA := alloc_below w22 (.cells #[.int .u8 (j : Int), .int .u8 (j : Int)] 5)
                  obtain ⟨w23, hw23⟩ : ∃ q, q = w22.alloc (.cells #[.int .u8 (j : Int), .int .u8 (j : Int)] 5) := ⟨_, rfl⟩
                  have c0 : w23.cell? ⟨w22.heap.size, 0, none⟩ = some (.int .u8 (j : Int)) := by rw [hw23, World.cell?_alloc_new]; rfl
                  have c1 : w23.cell? ⟨w22.heap.size, 1, none⟩ = some (.int .u8 (j : Int)) := by rw [hw23, World.cell?_alloc_new]; rfl
                  have z23 : w23.heap.size = w22.heap.size + 1 := by rw [hw23, World.size_alloc]
                  rw [← hw23] at bA
                  obtain ⟨cap, w24, r24, o24, b24⟩ := run_full2 22 w23 w1.heap.size kj 1024 (List.replicate 1024 j) List.length_replicate (Owns.below hp bA) ⟨w22.heap.size, 0, none⟩ j c0 (by rw [addr_add]; exact c1) (by decide) (by omega)
                  rw [rep_more] at o24
                  have b25 : Below w22.heap.size w22 w24 := bA.trans (b24.mono (by omega))
                  have O24 := HO7.out.below b25 5
                  have M24 := HM.out.below b25 5
                  have lk : ext lab7 w22.heap.size 5 w23.heap.size = 5 := ext_new (by omega)
                  obtain ⟨kk, hkk⟩ : ∃ q, q = w23.heap.size := ⟨_, rfl⟩
                  rw [← hkk] at r24 o24 lk
                  have bC := alloc_below w24 (.cells #[.slice (some ⟨kk, 0, none⟩) 1026 cap] 22)
                  obtain ⟨v26, w26, r26, s26, g26, m26⟩ := run_pushV und27 info22 rfl (by decide) 27 (w24.alloc (.cells #[.slice (some ⟨kk, 0, none⟩) 1026 cap] 22)) w1.heap.size (.slice ma j mc) _ ⟨w24.heap.size, 0, none⟩ [.slice (some ⟨kk, 0, none⟩) 1026 cap] 1 rfl (M24.more.below bC) (by
                    intro q u hq
                    rw [addr_add, Nat.zero_add, World.cell?_alloc_new]
                    simpa using hq) (by intro u hu; simp at hu; subst hu; rfl) (by rw [List.length_map, HML.out]; omega) (by have := O24.live.size; rw [World.size_alloc]; omega)
                  obtain ⟨O26, M26⟩ := Mo.push O24 M24 (by rw [HML.out]; exact o24) lk s26 g26 m26
                  obtain ⟨ma', mc', e26, _⟩ := s26.form
                  rw [List.length_append, List.length_map, HML.out, List.length_singleton] at e26
                  subst e26
                  have HO26 := hide O26
                  have HM26 := hide M26
                  have HR24 := hide r24
                  have HR26 := hide r26
                  have hj256 : (j : Int) % 256 = (j : Int) := by omega
                  have hj256' : IntKind.u8.wrap (j : Int) = (j : Int) := by rw [IntKind.wrap_u8]; omega
                  rw [hw23] at HR24
                  clear hp bA c0 c1 z23 r24 o24 b24 b25 O24 M24 lk hkk bC r26 s26 g26 m26 O26 M26 HO7 HM hw23 hkj
                  go_wp2_with (at_builtin; first | refine wpList_run rfl (.tmp 177) (.tmp 182) rfl rfl rfl HR24.out ?_ | refine wpList_run rfl (.tmp 173) (.tmp 184) rfl rfl rfl HR26.out ?_)
                  go_roundw
                  case rel => exact ⟨j + 1, ma', mc', _, _, rfl, by go_num, by omega, by rw [List.length_append, HML.out]; rfl, HO26.out, HM26.out⟩
                  case measure => simp [intOf]; omega
                · obtain rfl : n = j := by omega
                  clear hjn hj
                  obtain ⟨w30, hw30⟩ : ∃ q, q = wr := ⟨_, rfl⟩
                  rw [← hw30] at HO7 HM ⊢
                  clear hw30
                  go_wp2_with fail
                  go_loopw [23] (fun jv wx => ∃ j8 : Nat, jv = .int .i64 (j8 : Int) ∧ j8 ≤ n ∧ wx = w30) (fun jv _ => (50 - (intOf jv).toNat))
                  case atStart => exact ⟨0, rfl, Nat.zero_le _, rfl⟩
                  case round =>
                    obtain ⟨j, rfl, hjn, hwx⟩ := hrel
                    have hwx := hwx.symm
                    subst hwx
                    by_cases hj : j < n
                    · have dj : decide ((j : Int) < (n : Int)) = true := by simp; omega
                      have hjl : Hid (j < ks.length) := hide (by rw [HNK.out]; exact hj)
                      have hjm : Hid (j < ms.length) := hide (by rw [HML.out]; exact hj)
                      obtain ⟨bg, eg, _, cg⟩ := HO7.out.got.cell j (by rw [List.length_map]; exact hjl.out)
                      obtain ⟨bm, em, _, cm⟩ := HM.out.more.cell j (by rw [List.length_map]; exact hjm.out)
                      rw [List.getElem_map] at cg cm
                      have hp := (HO7.out.pg j hjl.out).1
                      rw [HC1.out j hj] at hp
                      have hq := (HM.out.mi j hjm.out).1
                      obtain ⟨kj, hkj⟩ : ∃ q, q = ks[j]'hjl.out := ⟨_, rfl⟩
                      obtain ⟨mj, hmj⟩ : ∃ q, q = (ms[j]'hjm.out).1 := ⟨_, rfl⟩
                      obtain ⟨mcj, hmcj⟩ : ∃ q, q = (ms[j]'hjm.out).2 := ⟨_, rfl⟩
                      rw [← hkj] at cg hp
                      rw [← hmj, ← hmcj] at cm hq
                      have HP := hide hp
                      have HQ := hide hq
                      have hj256 : (j : Int) % 256 = (j : Int) := by omega
                      have hj256' : IntKind.u8.wrap (j : Int) = (j : Int) := by rw [IntKind.wrap_u8]; omega
                      subst eg
                      subst em
                      clear hp hq hkj hmj hmcj
                      go_wp2_with fail
                      go_loopw [24] (fun kv wx => ∃ k : Nat, kv = .int .i64 (k : Int) ∧ k ≤ 1026 ∧ wx = w30) (fun kv _ => (1027 - (intOf kv).toNat))
                      case atStart => exact ⟨0, rfl, Nat.zero_le _, rfl⟩
                      case round =>
                        obtain ⟨k, rfl, hk, hwx⟩ := hrel
                        have hwx := hwx.symm
                        subst hwx
                        by_cases hk1 : k < 1026
                        · have dk : decide ((k : Int) < 1026) = true := by simp; omega
                          obtain ⟨b0, o0, e0, _, hcq⟩ := Bytes.at (Owns.seen_at HQ.out) (i := k) (by rw [List.length_replicate]; exact hk1)
                          cases e0
                          rw [Nat.zero_add, rep_getD 1026 j k hk1] at hcq
                          by_cases hk2 : k < 1024
                          · have dk2 : decide ((k : Int) < 1024) = true := by simp; omega
                            obtain ⟨b0, o0, e0, _, hcp⟩ := Bytes.at (Owns.seen_at HP.out) (i := k) (by rw [List.length_replicate]; exact hk2)
                            cases e0
                            rw [Nat.zero_add, rep_getD 1024 j k hk2] at hcp
                            go_wp2_with fail
                            go_roundw
                            case rel => exact ⟨k + 1, by go_num, by omega, trivial⟩
                            case measure => simp [intOf]; omega
                          · have dk2 : decide ((k : Int) < 1024) = false := by simp; omega
                            go_wp2_with fail
                            go_roundw
                            case rel => exact ⟨k + 1, by go_num, by omega, trivial⟩
                            case measure => simp [intOf]; omega
                        · obtain rfl : k = 1026 := by omega
                          have dk : decide (((1026 : Nat) : Int) < 1026) = false := by decide
                          go_wp2_with fail
                          go_roundw
                          case rel => first | exact ⟨j + 1, by go_num, by omega, trivial⟩ | exact ⟨j + 1, by go_num, by omega, rfl⟩
                          case measure => simp [intOf]; omega
                    · obtain rfl : n = j := by omega
                      clear hjn hj
                      have hq2 : (n : Int).tdiv 2 = (i : Int) := by rw [Int.tdiv_eq_ediv_of_nonneg (by omega)]; have := HN.out; omega
                      go_upto_region 54 with fail
                      go_cut [25] from 232 to 236 (fun s w' => (∃ q : Nat, s = .int .i64 (q : Int) ∧ q ≤ i ∧ i ≤ q + 4) ∧ w' = w30)
                      case first =>
                        go_wp2_with fail
                        all_goals (go_meet; first | exact ⟨⟨0, rfl, by omega, by omega⟩, rfl⟩ | exact ⟨⟨i - 4, by congr 1; omega, by omega, by omega⟩, rfl⟩)
                      case rest =>
                      obtain ⟨⟨q0, hs25, hq0, hq1⟩, hwc⟩ := hcut
                      have hwc := hwc.symm
                      subst hwc
                      rw [hs25]
                      clear hs25
                      go_wp2_with fail
                      go_loopw [25] (fun jv wx => ∃ q : Nat, jv = .int .i64 (q : Int) ∧ q ≤ i ∧ i ≤ q + 4 ∧ Below w30.heap.size w30 wx) (fun jv _ => (50 - (intOf jv).toNat))
                      case atStart => exact ⟨q0, rfl, hq0, hq1, Below.refl _ _⟩
                      case round =>
                        obtain ⟨q, rfl, hqi, hq4, hB⟩ := hrel
                        have HBq := hide hB
                        clear hB
                        by_cases hq : q < i
                        · have dj : decide ((q : Int) < (i : Int)) = true := by simp; omega
                          have OQ := hide (HO7.out.quiet HBq.out)
                          have KH := homeOf_any (q : Int) wr
                          rw [bring_nat] at KH
                          have RR := RW1.out.four.read (q % 4) (by omega)
                          rw [RW1.out.last q hq (by omega)] at RR
                          have H2Q : Hid (2 * q < ps.length) := hide (by rw [HNP.out, HN.out]; omega)
                          have q3 : ps.getD (2 * q) [] = ps[2 * q]'H2Q.out := by rw [List.getD_eq_getElem?_getD, List.getElem?_eq_getElem H2Q.out]; rfl
                          rw [q3] at RR
                          obtain ⟨H, hH⟩ : ∃ H, H = 5 + 2 * (q % 4) := ⟨_, rfl⟩
                          rw [← hH] at KH RR
                          have HRR := hide RR
                          clear hH RR q3
                          go_wp2_with fail
                          refine KH.mono ?_
                          rintro e w31 ⟨rfl, hw5⟩
                          obtain rfl : wr = w31 := hw5.symm
                          clear hw5 KH
                          have KR := read_twin OQ.out.live.dev (H : Int) (by rw [RW1.out.four.run.pend]; decide)
                          rw [HRR.out.1, HRR.out.2] at KR
                          go_wp2_with fail
                          refine KR.mono ?_
                          rintro e w32 ⟨v8, x8, rfl, t8, o8, b8⟩
                          rcases t8 with ⟨_, rfl⟩ | ⟨q, _⟩
                          rotate_left
                          · exact absurd rfl q
                          rcases o8 with ⟨q, _⟩ | ⟨_, hPL, gx, rfl, hgx, o8⟩
                          · exact absurd rfl q
                          have DR : Below w32.heap.size w32 w32.drew := (Below.refl _ _).drew
                          have O32 := ((OQ.out.quiet b8).quiet DR)
                          have AX := (Apart.new OQ.out.live.dev o8 hgx).below DR
                          have cX := AX.conv 1024
                          rw [hPL] at cX
                          obtain ⟨bw, ew, _, cw⟩ := O32.was.cell (2 * q) (by rw [List.length_map]; exact H2Q.out)
                          rw [List.getElem_map] at cw
                          unfold sv at cw
                          obtain ⟨SJ, hSJ⟩ : ∃ s, s = strOf (ps[2 * q]'H2Q.out) := ⟨_, rfl⟩
                          rw [← hSJ] at cX cw
                          obtain ⟨m2, hm2⟩ : ∃ m, m = 2 * q := ⟨_, rfl⟩
                          rw [← hm2] at cw
                          have hmi : IntKind.i64.wrap (2 * (q : Int)) = (m2 : Int) := by rw [IntKind.wrap_i64]; omega
                          have hml : m2 < n := by have := HN.out; omega
                          have BQ := hide (bnext (bnext HBq.out b8 (Nat.le_refl _)) DR (Nat.le_refl _))
                          subst ew
                          clear KR o8 hgx b8 AX O32 hPL OQ HBq HRR hm2 hSJ
                          go_upto_region 58 with fail
                          refine wp_region_held_drew (S := fun wq => (convert 22 9 (pv gx)).run Try.prog wq = .ok (.string SJ) wq ∧ wq.cell? ⟨bw, m2, none⟩ = some (.string SJ)) (by kernel_rfl) ⟨cX, cw⟩ (fun hS => ?_)
                          clear DR cX cw
                          generalize w32.drew = w33 at *
                          refine take_at 0 (some 251) (v := ?_) rfl rfl (by kernel_rfl) (by kernel_rfl) (by kernel_rfl) (fun _ _ _ h => h) ⟨by rfl, ?_⟩ hS ?_
                          rotate_left
                          · intro wq hSw; obtain ⟨y0, y1⟩ := hSw; go_simp; (try rw [if_pos (by omega)]); try rfl
                          simp only [Act.put, List.setIfInBounds_toArray, List.set_cons_zero, List.set_cons_succ]
                          refine take_at 1 (some 252) (v := ?_) rfl rfl (by kernel_rfl) (by kernel_rfl) (by kernel_rfl) (fun _ _ _ h => h) ⟨by rfl, ?_⟩ hS ?_
                          rotate_left
                          · intro wq hSw; obtain ⟨y0, y1⟩ := hSw; go_simp; (try rw [if_pos (by omega)]); try rfl
                          simp only [Act.put, List.setIfInBounds_toArray, List.set_cons_zero, List.set_cons_succ]
                          refine take_at 2 (some 253) (v := ?_) rfl rfl (by kernel_rfl) (by kernel_rfl) (by kernel_rfl) (fun _ _ _ h => h) ⟨by rfl, ?_⟩ hS ?_
                          rotate_left
                          · intro wq hSw; obtain ⟨y0, y1⟩ := hSw; go_simp; (try rw [if_pos (by omega)]); try rfl
                          simp only [Act.put, List.setIfInBounds_toArray, List.set_cons_zero, List.set_cons_succ]
                          refine take_at 3 (some 254) (v := ?_) rfl rfl (by kernel_rfl) (by kernel_rfl) (by kernel_rfl) (fun _ _ _ h => h) ⟨by rfl, ?_⟩ hS ?_
                          rotate_left
                          · intro wq hSw; obtain ⟨y0, y1⟩ := hSw; go_simp; (try rw [if_pos (by omega)]); try rfl
                          simp only [Act.put, List.setIfInBounds_toArray, List.set_cons_zero, List.set_cons_succ]
                          refine take_at 4 (some 255) (v := ?_) rfl rfl (by kernel_rfl) (by kernel_rfl) (by kernel_rfl) (fun _ _ _ h => h) ⟨by rfl, ?_⟩ hS ?_
                          rotate_left
                          · intro wq hSw; obtain ⟨y0, y1⟩ := hSw; go_simp; (try rw [if_pos (by omega)]); try rfl
                          simp only [Act.put, List.setIfInBounds_toArray, List.set_cons_zero, List.set_cons_succ]
                          refine take_at 5 (some 256) (v := ?_) rfl rfl (by kernel_rfl) (by kernel_rfl) (by kernel_rfl) (fun _ _ _ h => h) ⟨by rfl, ?_⟩ hS ?_
                          rotate_left
                          · intro wq hSw; obtain ⟨y0, y1⟩ := hSw; go_simp; (try rw [if_pos (by omega)]); try rfl
                          simp only [Act.put, List.setIfInBounds_toArray, List.set_cons_zero, List.set_cons_succ]
                          refine take_at 6 (some 257) (v := ?_) rfl rfl (by kernel_rfl) (by kernel_rfl) (by kernel_rfl) (fun _ _ _ h => h) ⟨by rfl, ?_⟩ hS ?_
                          rotate_left
                          · intro wq hSw; obtain ⟨y0, y1⟩ := hSw; go_simp; (try rw [if_pos (by omega)]); try rfl
                          simp only [Act.put, List.setIfInBounds_toArray, List.set_cons_zero, List.set_cons_succ]
                          refine take_at 7 (some 258) (v := ?_) rfl rfl (by kernel_rfl) (by kernel_rfl) (by kernel_rfl) (fun _ _ _ h => h) ⟨by rfl, ?_⟩ hS ?_
                          rotate_left
                          · intro wq hSw; obtain ⟨y0, y1⟩ := hSw; go_simp; (try rw [if_pos (by omega)]); try rfl
                          simp only [Act.put, List.setIfInBounds_toArray, List.set_cons_zero, List.set_cons_succ]
                          refine take_at 8 (some 259) (v := ?_) rfl rfl (by kernel_rfl) (by kernel_rfl) (by kernel_rfl) (fun _ _ _ h => h) ⟨by rfl, ?_⟩ hS ?_
                          rotate_left
                          · intro wq hSw; obtain ⟨y0, y1⟩ := hSw; go_simp; (try rw [if_pos (by omega)]); try rfl
                          simp only [Act.put, List.setIfInBounds_toArray, List.set_cons_zero, List.set_cons_succ]
                          refine take_at 9 (some 260) (v := ?_) rfl rfl (by kernel_rfl) (by kernel_rfl) (by kernel_rfl) (fun _ _ _ h => h) ⟨by rfl, ?_⟩ hS ?_
                          rotate_left
                          · intro wq hSw; obtain ⟨y0, y1⟩ := hSw; go_simp; (try rw [if_pos (by omega)]); try rfl
                          simp only [Act.put, List.setIfInBounds_toArray, List.set_cons_zero, List.set_cons_succ]
                          refine take_at 10 (some 261) (v := ?_) rfl rfl (by kernel_rfl) (by kernel_rfl) (by kernel_rfl) (fun _ _ _ h => h) ⟨by rfl, ?_⟩ hS ?_
                          rotate_left
                          · intro wq hSw; obtain ⟨y0, y1⟩ := hSw; go_simp; (try rw [if_pos (by omega)]); try rfl
                          simp only [Act.put, List.setIfInBounds_toArray, List.set_cons_zero, List.set_cons_succ]
                          refine take_at 11 (some 262) (v := ?_) rfl rfl (by kernel_rfl) (by kernel_rfl) (by kernel_rfl) (fun _ _ _ h => h) ⟨by rfl, ?_⟩ hS ?_
                          rotate_left
                          · intro wq hSw; obtain ⟨y0, y1⟩ := hSw; go_simp; (try rw [if_pos (by omega)]); try rfl
                          simp only [Act.put, List.setIfInBounds_toArray, List.set_cons_zero, List.set_cons_succ]

                          refine wpAnyH_done (by kernel_rfl) ?_ _
                          go_wp2_with fail
                          go_roundw
                          case rel => exact ⟨q + 1, by go_num, by omega, by omega, BQ.out⟩
                          case measure => simp [intOf]; omega
                        · obtain rfl : i = q := by omega
                          have BF := hide (bnext B1.out (HO7.out.quiet HBq.out).live.bel (Nat.le_refl _))
                          go_wp2_with fail
                          go_ret
                          exact ⟨rfl, BF.out⟩
end Go.Proofs.Ytpddmimacjknfaa
