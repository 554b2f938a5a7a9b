import Derived.Test.YthaiagalndcndaaPo8
namespace Go.Proofs.Ythaiagalndcndaa
open Go.RowKit Go.QK Go.Maps Go.QM Go.QP
set_option maxRecDepth 100000
set_option maxHeartbeats 400000 in
theorem names_any (w : World) : Calls Try.prog 3 #[] w fun e w' => e = .returned (.bool true) ∧ Below w.heap.size w w' := by
  go_enter Try.func3, Try.ntmps3
  go_wp2_with fail
  refine (awake_any _).mono ?_
  rintro e w1 ⟨rfl, b1⟩
  have B1 := hide b1
  clear b1
  go_wp2_with fail
  go_ret
  exact ⟨rfl, B1.out⟩
/-! A list in a slice of its own. -/
structure Sl (w : World) (a : Option Addr) (n c : Nat) (l : List Dr) : Prop where
  ent : EntOk w ⟨a, c, l⟩
  len : n = l.length
theorem Sl.below {w w' : World} {a : Option Addr} {n c : Nat} {l : List Dr} (h : Sl w a n c l) (hb : Below w.heap.size w w') : Sl w' a n c l := ⟨h.ent.below hb, h.len⟩
theorem Sl.nil (w : World) : Sl w none 0 0 [] := ⟨⟨.inl rfl, by simp, fun _ => ⟨rfl, rfl⟩⟩, rfl⟩
theorem fit_h (a : Option Addr) (n c : Nat) (l : List Dr) (w : World) (h : Lies w a (drs l)) (hn : n = l.length) :
    Calls Try.prog 8 #[.slice a n c] w fun e w' => ∃ a' n' c' l', e = .returned (.slice a' n' c') ∧ Sl w' a' n' c' l' ∧ Fine l' ∧ l'.length ≤ 2000 ∧ Below w.heap.size w w' := by
  subst hn
  refine (fit_any a c l w h).mono ?_
  rintro e w' ⟨v, l', rfl, r, hf, hl, hb⟩
  obtain ⟨a', c', rfl, x⟩ := DRow.ent r (by omega)
  exact ⟨a', _, c', l', rfl, ⟨x, rfl⟩, hf, hl, hb⟩
theorem merged_h (a b : Option Addr) (na nb ca cb : Nat) (la lb m : List Dr) (w : World) (ha : Sl w a na ca la) (hb : Sl w b nb cb lb) (hfa : Fine la) (hfb : Fine lb) (hm : mg la lb = m) :
    Calls Try.prog 9 #[.slice a na ca, .slice b nb cb] w fun e w' => ∃ a' n' c', e = .returned (.slice a' n' c') ∧ Sl w' a' n' c' m ∧ Below w.heap.size w w' := by
  obtain ⟨ha, rfl⟩ := ha
  obtain ⟨hb, rfl⟩ := hb
  refine (merged_any a b ca cb la lb w ha hb hfa hfb).mono ?_
  rintro e w' ⟨v, rfl, r, hb⟩
  have hm' : tidy (la ++ lb) = m := hm
  have hl : m.length ≤ 64 := by rw [← hm']; exact tidy_len _
  rw [hm'] at r
  obtain ⟨a', c', rfl, x⟩ := DRow.ent r (by omega)
  exact ⟨a', _, c', rfl, ⟨x, rfl⟩, hb⟩
theorem same_h (a b : Option Addr) (na nb ca cb : Nat) (l : List Dr) (w : World) (ha : Sl w a na ca l) (hb : Sl w b nb cb l) :
    Calls Try.prog 10 #[.slice a na ca, .slice b nb cb] w fun e w' => e = .returned (.bool true) ∧ Below w.heap.size w w' := by
  obtain ⟨ha, rfl⟩ := ha
  obtain ⟨hb, rfl⟩ := hb
  exact same_true l a b ca cb w ha.1 hb.1 (by have := ha.2.1; simp only at this; omega)
theorem from_h (a : Option Addr) (n c : Nat) (l : List Dr) (F : Int) (w : World) (h : Sl w a n c l) (hF : fromL l = F) :
    Calls Try.prog 11 #[ptsV (.slice none 0 0) a n c 0] w fun e w' => e = .returned (.int .i64 F) ∧ Below w.heap.size w w' := by
  obtain ⟨h, rfl⟩ := h
  subst hF
  exact from_any none 0 0 a c l 0 w h.1 (by have := h.2.1; simp only at this; omega)
set_option maxHeartbeats 8000000 in
theorem law_merge (a0 a1 a2 : Option Addr) (c0 c1 c2 : Nat) (l0 l1 l2 : List Dr) (w : World) (h0 : Lies w a0 (drs l0)) (h1 : Lies w a1 (drs l1)) (h2 : Lies w a2 (drs l2)) :
    Calls Try.prog 4 #[.slice a0 l0.length c0, .slice a1 l1.length c1, .slice a2 l2.length c2] w fun e w' => e = .returned (.bool true) ∧ Below w.heap.size w w' := by
  have H0 := hide h0
  have H1 := hide h1
  have H2 := hide h2
  obtain ⟨n0, e0⟩ : ∃ n, n = l0.length := ⟨_, rfl⟩
  obtain ⟨n1, e1⟩ : ∃ n, n = l1.length := ⟨_, rfl⟩
  obtain ⟨n2, e2⟩ : ∃ n, n = l2.length := ⟨_, rfl⟩
  rw [← e0, ← e1, ← e2]
  have E0 := hide e0
  have E1 := hide e1
  have E2 := hide e2
  clear h0 h1 h2 e0 e1 e2
  go_enter Try.func4, Try.ntmps4
  go_wp2_with fail
  refine (awake_any _).mono ?_
  rintro e w1 ⟨rfl, b1⟩
  have B1 := hide b1
  clear b1
  go_wp2_with fail
  refine (fit_h a0 n0 c0 l0 _ (H0.out.below B1.out) E0.out).mono ?_
  rintro e w2 ⟨pa, ma, da, qa, rfl, xx, fa, ga, bb⟩
  have B2 := hide (bnext B1.out bb (Nat.le_refl _))
  clear bb B1
  have Sa := hide xx
  clear xx
  have Fa := hide fa
  clear fa
  go_wp2_with fail
  refine (fit_h a1 n1 c1 l1 _ (H1.out.below B2.out) E1.out).mono ?_
  rintro e w3 ⟨pb, mb, db, qb, rfl, xx, fb, gb, bb⟩
  have B3 := hide (bnext B2.out bb (Nat.le_refl _))
  have Sax := hide (Sa.out.below bb)
  clear Sa
  have Sa := Sax
  clear Sax
  clear bb B2
  have Sb := hide xx
  clear xx
  have Fb := hide fb
  clear fb
  go_wp2_with fail
  refine (fit_h a2 n2 c2 l2 _ (H2.out.below B3.out) E2.out).mono ?_
  rintro e w4 ⟨pc, mc, dc, qc, rfl, xx, fc, gc, bb⟩
  have B4 := hide (bnext B3.out bb (Nat.le_refl _))
  have Sax := hide (Sa.out.below bb)
  have Sbx := hide (Sb.out.below bb)
  clear Sa Sb
  have Sa := Sax
  have Sb := Sbx
  clear Sax Sbx
  clear bb B3
  have Sc := hide xx
  clear xx
  have Fc := hide fc
  clear fc
  obtain ⟨AB, e1⟩ : ∃ x, mg qa qb = x := ⟨_, rfl⟩
  obtain ⟨BC, e2⟩ : ∃ x, mg qb qc = x := ⟨_, rfl⟩
  obtain ⟨AC, e3⟩ : ∃ x, mg AB qc = x := ⟨_, rfl⟩
  obtain ⟨A1, e4⟩ : ∃ x, mg qa [] = x := ⟨_, rfl⟩
  have T1 := hide e1
  have T2 := hide e2
  have T3 := hide e3
  have T4 := hide e4
  have T5 := hide (show mg qb qa = AB by rw [← e1]; exact mg_comm qb qa)
  have T6 := hide (show mg qa BC = AC by rw [← e3, ← e2, ← e1]; exact (mg_assoc Fa.out Fb.out Fc.out).symm)
  have T7 := hide (show mg qa qa = A1 by rw [← e4]; exact mg_self qa)
  have T8 := hide (show mg AB AB = AB by rw [← e1]; exact mg_again Fa.out Fb.out)
  have T9 := hide (show mg AB qa = AB by rw [← e1]; exact mg_more Fa.out Fb.out)
  have FAB := hide (show Fine AB by rw [← e1]; exact mg_fine Fa.out Fb.out)
  have FBC := hide (show Fine BC by rw [← e2]; exact mg_fine Fb.out Fc.out)
  have HUP := hide (show AB.Pairwise (fun p q => p.1 < q.1) by rw [← e1]; exact told_up _ _)
  have HFM := hide (show fromL AB = if qa = [] then fromL qb else if qb = [] then fromL qa else min (fromL qa) (fromL qb) by rw [← e1]; exact mg_from Fa.out Fb.out)
  clear e1 e2 e3 e4
  go_wp2_with fail
  refine (merged_h pa pb ma mb da db qa qb (AB) _ Sa.out Sb.out Fa.out Fb.out (T1.out)).mono ?_
  rintro e w5 ⟨pd, md, dd, rfl, xx, bb⟩
  have B5 := hide (bnext B4.out bb (Nat.le_refl _))
  have Sax := hide (Sa.out.below bb)
  have Sbx := hide (Sb.out.below bb)
  have Scx := hide (Sc.out.below bb)
  clear Sa Sb Sc
  have Sa := Sax
  have Sb := Sbx
  have Sc := Scx
  clear Sax Sbx Scx
  clear bb B4
  have Sd := hide xx
  clear xx
  go_wp2_with fail
  refine (merged_h pb pa mb ma db da qb qa (AB) _ Sb.out Sa.out Fb.out Fa.out (T5.out)).mono ?_
  rintro e w6 ⟨pe, me, de, rfl, xx, bb⟩
  have B6 := hide (bnext B5.out bb (Nat.le_refl _))
  have Sax := hide (Sa.out.below bb)
  have Sbx := hide (Sb.out.below bb)
  have Scx := hide (Sc.out.below bb)
  have Sdx := hide (Sd.out.below bb)
  clear Sa Sb Sc Sd
  have Sa := Sax
  have Sb := Sbx
  have Sc := Scx
  have Sd := Sdx
  clear Sax Sbx Scx Sdx
  clear bb B5
  have Se := hide xx
  clear xx
  go_wp2_with fail
  refine (same_h pd pe md me dd de (AB) _ Sd.out Se.out).mono ?_
  rintro e w7 ⟨rfl, bb⟩
  have B7 := hide (bnext B6.out bb (Nat.le_refl _))
  have Sax := hide (Sa.out.below bb)
  have Sbx := hide (Sb.out.below bb)
  have Scx := hide (Sc.out.below bb)
  have Sdx := hide (Sd.out.below bb)
  have Sex := hide (Se.out.below bb)
  clear Sa Sb Sc Sd Se
  have Sa := Sax
  have Sb := Sbx
  have Sc := Scx
  have Sd := Sdx
  have Se := Sex
  clear Sax Sbx Scx Sdx Sex
  clear bb B6
  clear Se
  go_wp2_with fail
  refine (merged_h pd pc md mc dd dc (AB) qc (AC) _ Sd.out Sc.out FAB.out Fc.out (T3.out)).mono ?_
  rintro e w8 ⟨pf, mf, df, rfl, xx, bb⟩
  have B8 := hide (bnext B7.out bb (Nat.le_refl _))
  have Sax := hide (Sa.out.below bb)
  have Sbx := hide (Sb.out.below bb)
  have Scx := hide (Sc.out.below bb)
  have Sdx := hide (Sd.out.below bb)
  clear Sa Sb Sc Sd
  have Sa := Sax
  have Sb := Sbx
  have Sc := Scx
  have Sd := Sdx
  clear Sax Sbx Scx Sdx
  clear bb B7
  have Sf := hide xx
  clear xx
  go_wp2_with fail
  refine (merged_h pb pc mb mc db dc qb qc (BC) _ Sb.out Sc.out Fb.out Fc.out (T2.out)).mono ?_
  rintro e w9 ⟨pg, mg, dg, rfl, xx, bb⟩
  have B9 := hide (bnext B8.out bb (Nat.le_refl _))
  have Sax := hide (Sa.out.below bb)
  have Sbx := hide (Sb.out.below bb)
  have Scx := hide (Sc.out.below bb)
  have Sdx := hide (Sd.out.below bb)
  have Sfx := hide (Sf.out.below bb)
  clear Sa Sb Sc Sd Sf
  have Sa := Sax
  have Sb := Sbx
  have Sc := Scx
  have Sd := Sdx
  have Sf := Sfx
  clear Sax Sbx Scx Sdx Sfx
  clear bb B8
  have Sg := hide xx
  clear xx
  go_wp2_with fail
  refine (merged_h pa pg ma mg da dg qa (BC) (AC) _ Sa.out Sg.out Fa.out FBC.out (T6.out)).mono ?_
  rintro e w10 ⟨ph, mh, dh, rfl, xx, bb⟩
  have B10 := hide (bnext B9.out bb (Nat.le_refl _))
  have Sax := hide (Sa.out.below bb)
  have Sbx := hide (Sb.out.below bb)
  have Scx := hide (Sc.out.below bb)
  have Sdx := hide (Sd.out.below bb)
  have Sfx := hide (Sf.out.below bb)
  have Sgx := hide (Sg.out.below bb)
  clear Sa Sb Sc Sd Sf Sg
  have Sa := Sax
  have Sb := Sbx
  have Sc := Scx
  have Sd := Sdx
  have Sf := Sfx
  have Sg := Sgx
  clear Sax Sbx Scx Sdx Sfx Sgx
  clear bb B9
  have Sh := hide xx
  clear xx
  go_wp2_with fail
  refine (same_h pf ph mf mh df dh (AC) _ Sf.out Sh.out).mono ?_
  rintro e w11 ⟨rfl, bb⟩
  have B11 := hide (bnext B10.out bb (Nat.le_refl _))
  have Sax := hide (Sa.out.below bb)
  have Sbx := hide (Sb.out.below bb)
  have Scx := hide (Sc.out.below bb)
  have Sdx := hide (Sd.out.below bb)
  have Sfx := hide (Sf.out.below bb)
  have Sgx := hide (Sg.out.below bb)
  have Shx := hide (Sh.out.below bb)
  clear Sa Sb Sc Sd Sf Sg Sh
  have Sa := Sax
  have Sb := Sbx
  have Sc := Scx
  have Sd := Sdx
  have Sf := Sfx
  have Sg := Sgx
  have Sh := Shx
  clear Sax Sbx Scx Sdx Sfx Sgx Shx
  clear bb B10
  clear Sf
  clear Sg
  clear Sh
  go_wp2_with fail
  refine (merged_h pa pa ma ma da da qa qa (A1) _ Sa.out Sa.out Fa.out Fa.out (T7.out)).mono ?_
  rintro e w12 ⟨pi, mi, di, rfl, xx, bb⟩
  have B12 := hide (bnext B11.out bb (Nat.le_refl _))
  have Sax := hide (Sa.out.below bb)
  have Sbx := hide (Sb.out.below bb)
  have Scx := hide (Sc.out.below bb)
  have Sdx := hide (Sd.out.below bb)
  clear Sa Sb Sc Sd
  have Sa := Sax
  have Sb := Sbx
  have Sc := Scx
  have Sd := Sdx
  clear Sax Sbx Scx Sdx
  clear bb B11
  have Si := hide xx
  clear xx
  go_wp2_with fail
  refine (merged_h pa none ma 0 da 0 qa [] (A1) _ Sa.out (Sl.nil _) Fa.out Fine.nil (T4.out)).mono ?_
  rintro e w13 ⟨pj, mj, dj, rfl, xx, bb⟩
  have B13 := hide (bnext B12.out bb (Nat.le_refl _))
  have Sax := hide (Sa.out.below bb)
  have Sbx := hide (Sb.out.below bb)
  have Scx := hide (Sc.out.below bb)
  have Sdx := hide (Sd.out.below bb)
  have Six := hide (Si.out.below bb)
  clear Sa Sb Sc Sd Si
  have Sa := Sax
  have Sb := Sbx
  have Sc := Scx
  have Sd := Sdx
  have Si := Six
  clear Sax Sbx Scx Sdx Six
  clear bb B12
  have Sj := hide xx
  clear xx
  go_wp2_with fail
  refine (same_h pi pj mi mj di dj (A1) _ Si.out Sj.out).mono ?_
  rintro e w14 ⟨rfl, bb⟩
  have B14 := hide (bnext B13.out bb (Nat.le_refl _))
  have Sax := hide (Sa.out.below bb)
  have Sbx := hide (Sb.out.below bb)
  have Scx := hide (Sc.out.below bb)
  have Sdx := hide (Sd.out.below bb)
  have Six := hide (Si.out.below bb)
  have Sjx := hide (Sj.out.below bb)
  clear Sa Sb Sc Sd Si Sj
  have Sa := Sax
  have Sb := Sbx
  have Sc := Scx
  have Sd := Sdx
  have Si := Six
  have Sj := Sjx
  clear Sax Sbx Scx Sdx Six Sjx
  clear bb B13
  clear Si
  clear Sj
  clear Sc
  go_wp2_with fail
  refine (merged_h pd pd md md dd dd (AB) (AB) (AB) _ Sd.out Sd.out FAB.out FAB.out (T8.out)).mono ?_
  rintro e w15 ⟨pk, mk, dk, rfl, xx, bb⟩
  have B15 := hide (bnext B14.out bb (Nat.le_refl _))
  have Sax := hide (Sa.out.below bb)
  have Sbx := hide (Sb.out.below bb)
  have Sdx := hide (Sd.out.below bb)
  clear Sa Sb Sd
  have Sa := Sax
  have Sb := Sbx
  have Sd := Sdx
  clear Sax Sbx Sdx
  clear bb B14
  have Sk := hide xx
  clear xx
  go_wp2_with fail
  refine (same_h pk pd mk md dk dd (AB) _ Sk.out Sd.out).mono ?_
  rintro e w16 ⟨rfl, bb⟩
  have B16 := hide (bnext B15.out bb (Nat.le_refl _))
  have Sax := hide (Sa.out.below bb)
  have Sbx := hide (Sb.out.below bb)
  have Sdx := hide (Sd.out.below bb)
  have Skx := hide (Sk.out.below bb)
  clear Sa Sb Sd Sk
  have Sa := Sax
  have Sb := Sbx
  have Sd := Sdx
  have Sk := Skx
  clear Sax Sbx Sdx Skx
  clear bb B15
  clear Sk
  go_wp2_with fail
  refine (merged_h pd pa md ma dd da (AB) qa (AB) _ Sd.out Sa.out FAB.out Fa.out (T9.out)).mono ?_
  rintro e w17 ⟨pl, ml, dl, rfl, xx, bb⟩
  have B17 := hide (bnext B16.out bb (Nat.le_refl _))
  have Sax := hide (Sa.out.below bb)
  have Sbx := hide (Sb.out.below bb)
  have Sdx := hide (Sd.out.below bb)
  clear Sa Sb Sd
  have Sa := Sax
  have Sb := Sbx
  have Sd := Sdx
  clear Sax Sbx Sdx
  clear bb B16
  have Sl := hide xx
  clear xx
  go_wp2_with fail
  refine (same_h pl pd ml md dl dd (AB) _ Sl.out Sd.out).mono ?_
  rintro e w18 ⟨rfl, bb⟩
  have B18 := hide (bnext B17.out bb (Nat.le_refl _))
  have Sax := hide (Sa.out.below bb)
  have Sbx := hide (Sb.out.below bb)
  have Sdx := hide (Sd.out.below bb)
  have Slx := hide (Sl.out.below bb)
  clear Sa Sb Sd Sl
  have Sa := Sax
  have Sb := Sbx
  have Sd := Sdx
  have Sl := Slx
  clear Sax Sbx Sdx Slx
  clear bb B17
  clear Sl
  clear T1 T2 T3 T4 T5 T6 T7 T8 T9 FAB FBC
  have hml := Sd.out.len
  have hml2 : md ≤ 100000 := by rw [hml]; exact Sd.out.ent.2.1
  have HML := hide hml
  clear hml H0 H1 H2 E0 E1 E2 Fc
  go_wp2_with fail
  go_loopw [8] (fun i wr => ∃ k : Nat, i = .int .i64 (k : Int) ∧ k ≤ md ∧ Below w18.heap.size w18 wr) (fun i _ => md - (intOf i).toNat)
  case atStart => exact ⟨0, rfl, Nat.zero_le _, Below.refl _ _⟩
  case round =>
    obtain ⟨k, rfl, hk, hb⟩ := hrel
    have HB := hide hb
    clear hb
    by_cases hlt : k < md
    · have hlt2 : k < AB.length := by rw [← HML.out]; exact hlt
      by_cases hk0 : 0 < k
      · obtain ⟨j, rfl⟩ : ∃ j, k = j + 1 := ⟨k - 1, by omega⟩
        obtain ⟨b2, off2, ea, hb2, r0, -⟩ := (Sd.out.below HB.out).ent.1.dr hlt2
        simp only at ea
        subst ea
        obtain ⟨b3, off3, ea, hb3, s0, -⟩ := (Sd.out.below HB.out).ent.1.dr (show j < AB.length by omega)
        cases ea
        have hlt3 := List.pairwise_iff_getElem.1 HUP.out j (j + 1) (by omega) hlt2 (by omega)
        simp only at r0 s0
        generalize AB[j] = x at *
        generalize AB[j + 1] = y at *
        obtain ⟨x1, x2⟩ := x
        obtain ⟨y1, y2⟩ := y
        simp only at r0 s0 hlt3
        have ew : IntKind.i64.wrap (((j + 1 : Nat) : Int) - 1) = (j : Int) := by rw [IntKind.wrap_i64]; omega
        have ew2 : (((j + 1 : Nat) : Int)) - 1 = (j : Int) := by omega
        have ew3 : IntKind.i64.wrap ((j : Int) + 1 - 1) = (j : Int) := by rw [IntKind.wrap_i64]; omega
        have ew4 : (j : Int) + 1 - 1 = (j : Int) := by omega
        go_upto_region 12 with fail
        go_quiet (fail)
        go_wp2_with fail
        go_roundw
        case rel => exact ⟨j + 1 + 1, by go_num, by omega, below_drewN HB.out _⟩
        case measure => simp [intOf]; omega
      · obtain rfl : k = 0 := by omega
        go_upto_region 12 with fail
        go_quiet (fail)
        go_wp2_with fail
        go_roundw
        case rel => exact ⟨1, by go_num, by omega, below_drewN HB.out _⟩
        case measure => simp [intOf]; omega
    · obtain rfl : k = md := by omega
      have B99 := hide (bnext B18.out HB.out (Nat.le_refl _))
      have Ta := hide (Sa.out.below HB.out)
      have Tb := hide (Sb.out.below HB.out)
      have Td := hide (Sd.out.below HB.out)
      obtain ⟨X, hX⟩ : ∃ X, fromL qa = X := ⟨_, rfl⟩
      obtain ⟨Y, hY⟩ : ∃ Y, fromL qb = Y := ⟨_, rfl⟩
      obtain ⟨Z, hZ⟩ : ∃ Z, fromL AB = Z := ⟨_, rfl⟩
      have hna := Ta.out.len
      have hnb := Tb.out.len
      rw [hX, hY, hZ] at HFM
      have HZ := hide (show (ma = 0 → Z = Y) ∧ (¬ ma = 0 → mb = 0 → Z = X) ∧ (¬ ma = 0 → ¬ mb = 0 → Z = min X Y) by
        have q := HFM.out
        refine ⟨fun h => ?_, fun h h' => ?_, fun h h' => ?_⟩
        · rw [if_pos (List.eq_nil_of_length_eq_zero (by omega))] at q; exact q
        · rw [if_neg (fun e => h (by rw [hna, e]; rfl)), if_pos (List.eq_nil_of_length_eq_zero (by omega))] at q; exact q
        · rw [if_neg (fun e => h (by rw [hna, e]; rfl)), if_neg (fun e => h' (by rw [hnb, e]; rfl))] at q; exact q)
      have HX := hide hX
      have HY := hide hY
      have HZZ := hide hZ
      clear HFM hX hY hZ hna hnb Sa Sb Sd B18 HB HUP HML ga gb gc Fa Fb
      go_wp2_with fail
      refine (from_h pa ma da qa X _ Ta.out HX.out).mono ?_
      rintro e x1 ⟨rfl, bb⟩
      have B100 := hide (bnext B99.out bb (Nat.le_refl _))
      have Ub := hide (Tb.out.below bb)
      have Ud := hide (Td.out.below bb)
      clear bb B99 Ta Tb Td
      go_wp2_with fail
      refine (from_h pb mb db qb Y _ Ub.out HY.out).mono ?_
      rintro e x2 ⟨rfl, bb⟩
      have B101 := hide (bnext B100.out bb (Nat.le_refl _))
      have Vd := hide (Ud.out.below bb)
      clear bb B100 Ub Ud
      go_wp2_with fail
      refine (from_h pd k dd AB Z _ Vd.out HZZ.out).mono ?_
      rintro e x3 ⟨rfl, bb⟩
      have B102 := hide (bnext B101.out bb (Nat.le_refl _))
      clear bb B101 Vd
      by_cases g0 : ma = 0
      · subst g0
        have gz := HZ.out.1 rfl
        have gzz : (Z == Y) = true := by simpa using gz
        clear gz HZ
        go_wp2_with fail
        go_ret
        exact ⟨by first | rfl | rw [gzz], B102.out⟩
      · have hma : 0 < ma := by omega
        by_cases g1 : mb = 0
        · subst g1
          have gz := HZ.out.2.1 g0 rfl
          have gzz : (Z == X) = true := by simpa using gz
          clear gz HZ
          go_wp2_with fail
          go_ret
          exact ⟨by first | rfl | rw [gzz], B102.out⟩
        · have hmb : 0 < mb := by omega
          have gz := HZ.out.2.2 g0 g1
          clear HZ
          by_cases gx : X ≤ Y
          · have gzz : (Z == X) = true := by simp; omega
            clear gz
            go_wp2_with fail
            go_ret
            exact ⟨by first | rfl | rw [gzz], B102.out⟩
          · have gzz : (Z == Y) = true := by simp; omega
            have gx2 : Y < X := by omega
            clear gz
            go_wp2_with fail
            go_ret
            exact ⟨by first | rfl | rw [gzz], B102.out⟩
end Go.Proofs.Ythaiagalndcndaa
