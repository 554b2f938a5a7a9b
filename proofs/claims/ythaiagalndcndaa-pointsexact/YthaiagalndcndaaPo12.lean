import Derived.Test.YthaiagalndcndaaPo10
namespace Go.Proofs.Ythaiagalndcndaa
open Go.RowKit Go.QK Go.Maps Go.QM Go.QP
set_option maxRecDepth 100000
theorem ret_pair {v : Value} {k : IntKind} {a b : Int} (h : a = b) : Ending.returned (.tuple #[v, .int k a]) = .returned (.tuple #[v, .int k b]) := by rw [h]
theorem getD_step {f : Int → Option Int} {p s n : Int} : (upd f (p, s) n).getD 0 = if n = p then lesser (f n) s else (f n).getD 0 := by
  unfold upd
  by_cases h : n = p
  · rw [if_pos h, if_pos h]; rfl
  · rw [if_neg h, if_neg h]
set_option maxHeartbeats 4000000 in
theorem rmerge_any (a b : Option Addr) (na nb ca cb : Nat) (la lb : List Dr) (w : World) (ha : Sl w a na ca la) (hb : Sl w b nb cb lb) :
    Calls Try.prog 20 #[.slice a na ca, .slice b nb cb] w fun e w' => ∃ v, e = .returned (.tuple #[v, .int .i64 (faultE (la ++ lb))]) ∧ (faultE (la ++ lb) ≠ 0 → v = .slice none 0 0) ∧ (faultE (la ++ lb) = 0 → DRow w' w.heap.size v (tidy (la ++ lb))) ∧ Below w.heap.size w w' := by
  obtain ⟨⟨la1, la2, la3⟩, hna⟩ := ha
  obtain ⟨⟨lb1, lb2, lb3⟩, hnb⟩ := hb
  simp only at la1 la2 la3 lb1 lb2 lb3
  rw [← hna] at la2 la3
  rw [← hnb] at lb2 lb3
  obtain ⟨R, hR⟩ : ∃ R, R = faultE (la ++ lb) := ⟨_, rfl⟩
  obtain ⟨al, hal⟩ : ∃ al, al = la ++ lb := ⟨_, rfl⟩
  rw [← hal] at hR ⊢
  rw [← hR]
  have HLA := hide la1
  have HLB := hide lb1
  have HNA := hide la3
  have HNB := hide lb3
  have HA := hide hna
  have HB := hide hnb
  have HAL := hide hal
  have HR := hide hR
  obtain ⟨n, hn⟩ : ∃ n, n = na + nb := ⟨_, rfl⟩
  have HN := hide (show n = al.length by rw [hn, hal, List.length_append, hna, hnb])
  have hn2 : n ≤ 200000 := by omega
  have HNN := hide hn
  clear la1 la3 lb1 lb3 hna hnb hal hR hn
  go_enter Try.func20, Try.ntmps20
  go_upto_region 2 with (at_builtin; first
    | (refine wpList_appR Try.underlying23 info28 rfl (by decide) (by decide) rfl (.const (.slice none 0 0)) (.tmp _) rfl w.heap.size (.slice none 0 0) 0 [] rfl (World.ownsRow_nil _ _ _ _) a na ca (drs la) rfl (by rw [drs_len, ← HA.out]) HLA.out (drs_one _) HNA.out (by omega) (Nat.le_refl _) ?_; intro v1 w1 q1 q2 q3; rw [Nat.zero_add, List.nil_append] at q1; have Q1 := hide q1; have BB := hide ((Below.refl w.heap.size w).grown q2 (Nat.le_refl _) (fun j hj => by cases hj)); obtain ⟨av, cv, hv, -⟩ := GRow.lies q1; subst hv; clear q1 q2 q3)
    | (refine wpList_appR Try.underlying23 info28 rfl (by decide) (by decide) rfl (.tmp _) (.tmp _) rfl w.heap.size (.slice av na cv) na (drs la) rfl Q1.out b nb cb (drs lb) rfl (by rw [drs_len, ← HB.out]) (HLB.out.below BB.out) (drs_one _) HNB.out (by omega) BB.out.size ?_; intro v2 w2 r1 r2 r3; rw [← drs_append, ← HAL.out, ← HNN.out] at r1; have R1 := hide r1; have BC := hide (BB.out.trans ((grown_keep r2).below BB.out.size (fun z hz q => by have := (World.ownsRow.lt Q1.out z q).1; omega))); obtain ⟨ax, cx, hv2, hli, -⟩ := GRow.lies r1; subst hv2; have HL := hide hli; clear r1 r2 r3 hli))
  clear Q1 BB HLA HLB HNA HNB HA HB HAL HNN la2 lb2
  go_wp2_with fail
  go_loopw [7] (fun i wr => ∃ k : Nat, i = .int .i64 (k : Int) ∧ k ≤ n ∧ R = faultE (al.drop k) ∧ w2 = wr) (fun i _ => n - (intOf i).toNat)
  case atStart => exact ⟨0, rfl, Nat.zero_le _, HR.out, rfl⟩
  case round =>
    obtain ⟨k, rfl, hk, hr, rfl⟩ := hrel
    have HR1 := hide hr
    clear hr
    by_cases hlt : k < n
    · have hkl : k < al.length := by rw [← HN.out]; exact hlt
      obtain ⟨b1, o1, e1, hb1, c0, c1⟩ := HL.out.dr hkl
      subst e1
      have hd : al.drop k = al[k] :: al.drop (k + 1) := List.drop_eq_getElem_cons hkl
      have HR2 := hide (show R = if mayE al[k] = 0 then faultE (al.drop (k + 1)) else mayE al[k] by rw [← faultE_cons, ← hd]; exact HR1.out)
      clear hd HR1
      generalize al[k] = x at *
      obtain ⟨p, s⟩ := x
      simp only at c0 c1
      have hret : ∀ E : Int, mayE (p, s) = E → E ≠ 0 → R = E := fun E h1 h2 => by have := HR2.out; rw [h1, if_neg h2] at this; exact this
      by_cases h1 : p < 0
      · have E1 := hide (hret 4 (by unfold mayE; simp only; rw [if_pos h1]) (by decide))
        clear hret HR2
        go_wp2
        go_ret2
        exact ⟨_, ret_pair E1.out.symm, fun _ => rfl, fun q => by rw [E1.out] at q; exact absurd q (by decide), BC.out⟩
      · by_cases h2 : 64 ≤ p
        · have E1 := hide (hret 4 (by unfold mayE; simp only; rw [if_neg h1, if_pos h2]) (by decide))
          clear hret HR2
          go_wp2
          go_ret2
          exact ⟨_, ret_pair E1.out.symm, fun _ => rfl, fun q => by rw [E1.out] at q; exact absurd q (by decide), BC.out⟩
        · by_cases h3 : s < 1
          · have E1 := hide (hret 23 (by unfold mayE; simp only; rw [if_neg h1, if_neg h2, if_pos h3]) (by decide))
            clear hret HR2
            go_wp2
            go_ret2
            exact ⟨_, ret_pair E1.out.symm, fun _ => rfl, fun q => by rw [E1.out] at q; exact absurd q (by decide), BC.out⟩
          · by_cases h4 : 2147483647 < s
            · have E1 := hide (hret 23 (by unfold mayE; simp only; rw [if_neg h1, if_neg h2, if_neg h3, if_pos h4]) (by decide))
              clear hret HR2
              go_wp2
              go_ret2
              exact ⟨_, ret_pair E1.out.symm, fun _ => rfl, fun q => by rw [E1.out] at q; exact absurd q (by decide), BC.out⟩
            · have E1 := hide (show R = faultE (al.drop (k + 1)) by have := HR2.out; rw [if_pos ((mayE_good (p, s)).2 ⟨by simp only; omega, by simp only; omega, by simp only; omega, by simp only; omega⟩)] at this; exact this)
              clear hret HR2
              go_wp2
              go_roundw
              case rel => exact ⟨k + 1, by go_num, by omega, E1.out, (by first | rfl | trivial)⟩
              case measure => simp [intOf]; omega
    · obtain rfl : k = n := by omega
      have hR0 : R = 0 := by
        have := HR1.out
        rw [List.drop_of_length_le (by rw [← HN.out]; exact Nat.le_refl _)] at this
        exact this
      have HF := hide ((fault_fine al).1 (by rw [← HR.out]; exact hR0))
      have HR0 := hide hR0
      clear hR0 HR1 HR
      go_wp2_with fail
      go_loopw [8, 9] (fun v i wr => ∃ q : Nat, i = .int .i64 (q : Int) ∧ q ≤ 64 ∧ DRow wr w2.heap.size v (told (lst al) q) ∧ Below w2.heap.size w2 wr) (fun _ i _ => 64 - (intOf i).toNat)
      case atStart => exact ⟨0, rfl, Nat.zero_le _, World.ownsRow_nil _ _ 28 2, Below.refl _ _⟩
      case round =>
        obtain ⟨q, rfl, hq, hrow, hbel⟩ := hrel
        have BQ := hide hbel
        have hle := told_len (lst al) q
        obtain ⟨nq, hnq⟩ : ∃ n, n = (told (lst al) q).length := ⟨_, rfl⟩
        have RQ := hide (show GRow wr w2.heap.size 28 2 u8 nq (drs (told (lst al) q)) by rw [hnq]; exact hrow)
        rw [← hnq] at hle
        have HNQ := hide hnq
        obtain ⟨ao, co, hvo, -⟩ := GRow.lies RQ.out
        subst hvo
        have HLQ := hide (HL.out.below hbel)
        clear hrow hbel hnq
        by_cases hq64 : q < 64
        · go_wp2_with fail
          go_loopw [10, 11] (fun s i ws => ∃ j : Nat, i = .int .i64 (j : Int) ∧ j ≤ k ∧ s = .int .i64 ((lst (al.take j) (q : Int)).getD 0) ∧ wr = ws) (fun _ i _ => k - (intOf i).toNat)
          case atStart => exact ⟨0, rfl, Nat.zero_le _, rfl, rfl⟩
          case round =>
            obtain ⟨j, rfl, hj, rfl, rfl⟩ := hrel
            by_cases hjk : j < k
            · have hjl : j < al.length := by rw [← HN.out]; exact hjk
              obtain ⟨b1, o1, e1, hb1, c0, c1⟩ := HLQ.out.dr hjl
              subst e1
              have ht : (lst (al.take (j + 1)) (q : Int)).getD 0 = if (q : Int) = al[j].1 then lesser (lst (al.take j) (q : Int)) al[j].2 else (lst (al.take j) (q : Int)).getD 0 := by
                rw [List.take_succ_eq_append_getElem hjl, lst_snoc]
                exact getD_step
              have hgd := HF.out al[j] (List.getElem_mem hjl)
              have hpos : ∀ t, lst (al.take j) (q : Int) = some t → 1 ≤ t := fun t h => (lst_pos (HF.out.take j) h).2.2.1
              generalize al[j] = x at *
              obtain ⟨p, s⟩ := x
              simp only at c0 c1 ht hgd
              have HT := hide ht
              clear ht
              by_cases hp : p = (q : Int)
              · subst hp
                cases hl : lst (al.take j) (q : Int) with
                | none =>
                  have HT2 := hide (show (lst (al.take (j + 1)) (q : Int)).getD 0 = s by rw [HT.out, if_pos rfl, hl]; rfl)
                  have HH := hide hl
                  clear hl HT hpos
                  simp only [Option.getD_none]
                  go_wp2
                  go_roundw
                  case rel => first | exact ⟨j + 1, by go_num, by omega, by rw [HT2.out], (by first | rfl | trivial)⟩ | ((repeat apply Exists.intro); exact ⟨⟨j + 1, by go_num, by omega, by rw [HT2.out], (by first | rfl | trivial)⟩, rfl⟩)
                  case measure => simp [intOf]; omega
                | some t =>
                  have htp := hpos t hl
                  have htn : (t == 0) = false := by simp; omega
                  simp only [Option.getD_some]
                  by_cases hst : s < t
                  · have HT2 := hide (show (lst (al.take (j + 1)) (q : Int)).getD 0 = s by rw [HT.out, if_pos rfl, hl]; simp only [lesser, if_pos hst])
                    clear hl HT hpos
                    go_wp2
                    go_roundw
                    case rel => first | exact ⟨j + 1, by go_num, by omega, by rw [HT2.out], (by first | rfl | trivial)⟩ | ((repeat apply Exists.intro); exact ⟨⟨j + 1, by go_num, by omega, by rw [HT2.out], (by first | rfl | trivial)⟩, rfl⟩)
                    case measure => simp [intOf]; omega
                  · have HT2 := hide (show (lst (al.take (j + 1)) (q : Int)).getD 0 = t by rw [HT.out, if_pos rfl, hl]; simp only [lesser, if_neg hst])
                    clear hl HT hpos
                    go_wp2
                    go_roundw
                    case rel => first | exact ⟨j + 1, by go_num, by omega, by rw [HT2.out], (by first | rfl | trivial)⟩ | ((repeat apply Exists.intro); exact ⟨⟨j + 1, by go_num, by omega, by rw [HT2.out], (by first | rfl | trivial)⟩, rfl⟩)
                    case measure => simp [intOf]; omega
              · have hpe : (p == (q : Int)) = false := by simpa using hp
                obtain ⟨cu, hcu⟩ : ∃ cu, cu = (lst (al.take j) (q : Int)).getD 0 := ⟨_, rfl⟩
                rw [← hcu]
                have HT2 := hide (show (lst (al.take (j + 1)) (q : Int)).getD 0 = cu by rw [HT.out, if_neg (fun h => hp h.symm), hcu])
                clear HT hpos hcu
                go_wp2
                go_roundw
                case rel => first | exact ⟨j + 1, by go_num, by omega, by rw [HT2.out], (by first | rfl | trivial)⟩ | ((repeat apply Exists.intro); exact ⟨⟨j + 1, by go_num, by omega, by rw [HT2.out], (by first | rfl | trivial)⟩, rfl⟩)
                case measure => simp [intOf]; omega
            · obtain rfl : j = k := by omega
              have hta : al.take j = al := List.take_of_length_le (by rw [← HN.out]; exact Nat.le_refl _)
              rw [hta]
              cases hl : lst al (q : Int) with
              | none =>
                have RN := hide (show DRow wr w2.heap.size (.slice ao nq co) (told (lst al) (q + 1)) by
                  have e : told (lst al) (q + 1) = told (lst al) q := by simp [told, one, hl]
                  rw [e]
                  show GRow wr w2.heap.size 28 2 (.slice ao nq co) (told (lst al) q).length (drs (told (lst al) q))
                  rw [← HNQ.out]
                  exact RQ.out)
                clear hl hta
                simp only [Option.getD_none]
                go_wp2_with fail
                go_roundw
                case rel => first | exact ⟨q + 1, by go_num, by omega, RN.out, BQ.out⟩ | ((repeat apply Exists.intro); exact ⟨⟨q + 1, by go_num, by omega, RN.out, BQ.out⟩, rfl⟩)
                case measure => simp [intOf]; omega
              | some s =>
                have hsp := (lst_pos HF.out hl).2.2.1
                have HT := hide (show told (lst al) (q + 1) = told (lst al) q ++ [((q : Int), s)] by simp [told, one, hl])
                have hsg : 0 < s := by simp only at hsp; omega
                clear hl hta hsp
                simp only [Option.getD_some]
                go_wp2_with (at_builtin; refine wpList_appR Try.underlying23 info28 rfl (by decide) (by decide) rfl (.tmp _) (.tmp _) rfl w2.heap.size _ nq (drs (told (lst al) q)) rfl (GRow.below RQ.out (alloc_below _ _)) (some ⟨wr.heap.size, 0, none⟩) 1 1 (drs [((q : Int), s)]) rfl rfl (lies_new2 _ ((q : Int), s) 28) (drs_one _) (by nofun) (by omega) (by have := BQ.out.size; simp; omega) ?_; intro vn w3 q1 q2 q3)
                have B3 : Below w2.heap.size w2 w3 := (BQ.out.alloc BQ.out.size _).trans ((grown_keep q2).below (by have := BQ.out.size; simp; omega) (fun z hz q => by have := (World.ownsRow.lt RQ.out z q).1; omega))
                have R3 := hide (show DRow w3 w2.heap.size vn (told (lst al) (q + 1)) by
                  rw [HT.out]
                  show GRow w3 w2.heap.size 28 2 vn (told (lst al) q ++ [((q : Int), s)]).length (drs (told (lst al) q ++ [((q : Int), s)]))
                  rw [List.length_append, ← HNQ.out, drs_append]
                  exact q1)
                go_roundw
                case rel => first | exact ⟨q + 1, by go_num, by omega, R3.out, B3⟩ | ((repeat apply Exists.intro); exact ⟨⟨q + 1, by go_num, by omega, R3.out, B3⟩, rfl⟩)
                case measure => simp [intOf]; omega
        · obtain rfl : q = 64 := by omega
          have BF := hide (BC.out.trans (BQ.out.mono BC.out.size))
          have RF := hide (GRow.mono RQ.out BC.out.size)
          go_wp2_with fail
          go_ret2
          refine ⟨_, ret_pair HR0.out.symm, fun z => absurd HR0.out z, fun _ => ?_, BF.out⟩
          show GRow wr w.heap.size 28 2 _ (told (lst al) 64).length (drs (told (lst al) 64))
          rw [← HNQ.out]
          exact RF.out
end Go.Proofs.Ythaiagalndcndaa
