import Derived.Test.YthaiagalndcndaaPoP
import Derived.Test.YthaiagalndcndaaTake
namespace Go.Proofs.Ythaiagalndcndaa
open Go.RowKit Go.QK Go.Maps Go.QM Go.QP
set_option maxRecDepth 100000
theorem merged_g (a b : Option Addr) (na nb ca cb : Nat) (la lb m : List Dr) (w : World) (ha : Sl w a na ca la) (hb : Sl w b nb cb lb) (hfa : Fine la) (hfb : Fine lb) (hm : mg la lb = m) :
    Calls Try.prog 9 #[.slice a na ca, .slice b nb cb] w fun e w' => ∃ a' n' c', e = .returned (.slice a' n' c') ∧ n' = m.length ∧ GRow w' w.heap.size 28 2 (.slice a' n' c') n' (drs m) ∧ Below w.heap.size w w' := by
  obtain ⟨ha, rfl⟩ := ha
  obtain ⟨hb, rfl⟩ := hb
  refine (merged_any a b ca cb la lb w ha hb hfa hfb).mono ?_
  rintro e w' ⟨v, rfl, r, hb⟩
  have hm' : tidy (la ++ lb) = m := hm
  rw [hm'] at r
  obtain ⟨a', c', e', -⟩ := GRow.lies r
  exact ⟨a', _, c', by rw [e'], rfl, by rw [← e']; exact r, hb⟩
theorem Inv.start (w : World) (B : Nat) (R : Nat → List Dr) : ∃ lab I, Inv w B lab I (.slice none 0 0) (.slice none 0 0) [] [] R R 0 := by
  refine ⟨fun _ => 0, put (put (fun _ => none) 1 ⟨23, 1, .slice none 0 0, 0, []⟩) 2 ⟨23, 1, .slice none 0 0, 0, []⟩, ⟨fun k it h => ?_⟩, by rw [put_other _ _ (by omega), put_same], put_same _ _ _, rfl, rfl, fun k hk => (by simp at hk), fun k hk => (by simp at hk), fun _ _ => rfl⟩
  by_cases q : k = 2
  · subst q
    rw [put_same] at h
    cases h
    exact ⟨World.ownsRow_nil _ _ _ _, fun g hg => by cases hg⟩
  · rw [put_other _ _ q] at h
    by_cases r : k = 1
    · subst r
      rw [put_same] at h
      cases h
      exact ⟨World.ownsRow_nil _ _ _ _, fun g hg => by cases hg⟩
    · rw [put_other _ _ r] at h
      cases h
theorem Inv.wKeep {w w2 w3 : World} {B : Nat} {lab : Nat → Nat} {I : Nat → Option It} {uG uW : Value} {vG vW : List Value} {R X : Nat → List Dr} {t : Nat} (h : Inv w B lab I uG uW vG vW R X t) (b2 : Below w.heap.size w w2) (k3 : Keep (fun z => uG.ownBlock = some z) w2 w3) : GRow w3 B 23 1 uW t vW :=
  GRow.keep (GRow.below h.rowW b2) k3 (fun g hg s => by
    have h1 := (h.own.at_ 1 _ h.g).2 g s
    have h2 := (h.own.at_ 2 _ h.ww).2 g hg
    omega)
theorem wrapS (z : Int) (h1 : -1000000 ≤ z) (h2 : z ≤ 1000000) : IntKind.i64.wrap z = z := by rw [IntKind.wrap_i64]; omega
theorem wrapK (k : Nat) (h : k ≤ 1000) : IntKind.i64.wrap (-1 - (k : Int)) = -1 - (k : Int) := wrapS _ (by omega) (by omega)
theorem wrapN (k : Nat) (h : k ≤ 1000) : IntKind.i64.wrap (-(k : Int)) = -(k : Int) := wrapS _ (by omega) (by omega)
theorem row_cell {w : World} {B : Nat} {a : Option Addr} {n c : Nat} {xs : List Value} (h : GRow w B 23 1 (.slice a n c) n xs) {k : Nat} {v : Value} (hk : xs[k]? = some v) : ∃ b, a = some ⟨b, 0, none⟩ ∧ b < w.heap.size ∧ w.cell? ⟨b, k, none⟩ = some v := by
  obtain ⟨a', c', e, li, _, _, _, h0⟩ := GRow.lies h
  cases e
  obtain ⟨b, off, e2, hb, hc⟩ := li.cellAt k v hk
  obtain ⟨q1, q2⟩ := h0 _ e2
  simp only at q1
  subst q1
  rw [Nat.zero_add] at hc
  exact ⟨b, e2, hb, hc⟩
theorem row_sl {w : World} {B : Nat} {v : Value} {n : Nat} {l : List Dr} (h : GRow w B 28 2 v n (drs l)) (hn : n = l.length) (hl : n ≤ 100000) : ∃ a c, v = .slice a n c ∧ Sl w a n c l := by
  subst hn
  obtain ⟨a, c, e, x⟩ := DRow.ent h hl
  exact ⟨a, c, e, x, rfl⟩
set_option maxHeartbeats 16000000 in
theorem law_new (a0 a1 : Option Addr) (c0 c1 : Nat) (l0 l1 : List Dr) (w : World) (h0 : Lies w a0 (drs l0)) (h1 : Lies w a1 (drs l1)) :
    Calls Try.prog 5 #[.slice a0 l0.length c0, .slice a1 l1.length c1] w fun e w' => e = .returned (.bool true) ∧ Below w.heap.size w w' := by
  have H0 := hide h0
  have H1 := hide h1
  obtain ⟨n0, e0⟩ : ∃ n, n = l0.length := ⟨_, rfl⟩
  obtain ⟨n1, e1⟩ : ∃ n, n = l1.length := ⟨_, rfl⟩
  rw [← e0, ← e1]
  have E0 := hide e0
  have E1 := hide e1
  clear h0 h1 e0 e1
  go_enter Try.func5, Try.ntmps5
  go_wp2_with fail
  refine (awake_any _).mono ?_
  rintro e w1 ⟨rfl, b1⟩
  have B1 := hide b1
  clear b1
  go_wp2_with fail
  refine (fit_h a0 n0 c0 l0 _ (H0.out.below B1.out) E0.out).mono ?_
  rintro e w2 ⟨pa, ma, da, qa, rfl, xx, fa, ga, bb⟩
  have B2 := hide (bnext B1.out bb (Nat.le_refl _))
  have Sa2 := hide xx
  have Fa := hide fa
  clear xx bb fa ga B1
  go_wp2_with fail
  refine (fit_h a1 n1 c1 l1 _ (H1.out.below B2.out) E1.out).mono ?_
  rintro e w3 ⟨pb, mb, db, qb, rfl, xx, fb, gb, bb⟩
  have B3 := hide (bnext B2.out bb (Nat.le_refl _))
  have Sa := hide (Sa2.out.below bb)
  have Sb := hide xx
  have Fb := hide fb
  clear xx bb fb gb B2 Sa2 H0 H1 E0 E1
  obtain ⟨R, T0, T1, T2, T3, TL⟩ : ∃ R : Nat → List Dr, mg qa qb = R 0 ∧ mg qb [] = R 1 ∧ mg [] qa = R 2 ∧ (∀ k, R (k + 3) = R k) ∧ ∀ k, (R k).length ≤ 64 := by
    refine ⟨fun k => if k % 3 = 0 then mg qa qb else if k % 3 = 1 then mg qb [] else mg [] qa, rfl, rfl, rfl, fun k => ?_, fun k => ?_⟩
    · have e : (k + 3) % 3 = k % 3 := by omega
      simp only [e]
    · simp only
      split
      · exact tidy_len _
      · split
        · exact tidy_len _
        · exact tidy_len _
  have TT := hide (And.intro (And.intro T0 T1) (And.intro T2 T3))
  have HTL := hide TL
  have M0 := hide T0
  have M1 := hide T1
  have M2 := hide T2
  have M3 := hide (T0.trans (T3 0).symm)
  have M4 := hide (T1.trans (T3 1).symm)
  have M5 := hide (T2.trans (T3 2).symm)
  clear T0 T1 T2 T3 TL
  go_wp2_with fail
  go_loopw [5, 6, 7] (fun u5 u6 i wr => ∃ (t : Nat) (lab : Nat → Nat) (I : Nat → Option It) (vG vW : List Value), i = .int .i64 (t : Int) ∧ t ≤ 6 ∧ Inv wr w3.heap.size lab I u5 u6 vG vW R R t ∧ Below w3.heap.size w3 wr) (fun _ _ i _ => 6 - (intOf i).toNat)
  case atStart =>
    obtain ⟨lab, I, h⟩ := Inv.start w3 w3.heap.size R
    exact ⟨0, lab, I, [], [], rfl, by omega, h, Below.refl _ _⟩
  case round =>
    obtain ⟨t, lab, I, vG, vW, rfl, ht, hinv, hb⟩ := hrel
    obtain ⟨a5, c5, e5, -⟩ := GRow.lies hinv.rowG
    obtain ⟨a6, c6, e6, -⟩ := GRow.lies hinv.rowW
    subst e5 e6
    have IV := hide hinv
    have HB := hide hb
    have hsz : w3.heap.size ≤ wr.heap.size := hb.size
    clear hinv hb
    by_cases htt : t < 6
    · rcases (show t = 0 ∨ t = 1 ∨ t = 2 ∨ t = 3 ∨ t = 4 ∨ t = 5 by omega) with rfl | rfl | rfl | rfl | rfl | rfl
      · go_wp2_with fail
        refine (merged_g pa pb ma mb da db qa qb (R 0) _ (Sa.out.below HB.out) (Sb.out.below HB.out) Fa.out Fb.out M0.out).mono ?_
        rintro e wm ⟨al, nl, cl, rfl, hnl, rl, bb⟩
        have QB := hide bb
        have hbase : wr.heap.size ≤ wr.heap.size := Nat.le_refl _
        have RL := hide rl
        have HNL := hide hnl
        have hnn : nl ≤ 64 := by rw [hnl]; exact HTL.out _
        have hsm : wr.heap.size ≤ wm.heap.size := QB.out.size
        have HX := hide (show GRow (wm.alloc (.cells #[.slice al nl cl] 23)) w3.heap.size 28 2 (.slice al nl cl) (R 0).length (drs (R 0)) by rw [← HNL.out]; exact GRow.mono (GRow.below RL.out (alloc_below _ _)) (by omega))
        have HV := hide (show ∀ g, (Value.slice al nl cl).ownBlock = some g → wr.heap.size ≤ g from fun g hg => by have := (World.ownsRow.lt RL.out g hg).1; omega)
        have b2 := hide (QB.out.alloc hsm (.cells #[.slice al nl cl] 23))
        clear rl hnl bb
        go_upto_region 16 with (at_builtin; refine wpList_appR Try.underlying34 info23 info23z (by decide) (by decide) rfl (.tmp _) (.tmp _) rfl w3.heap.size (.slice a5 0 c5) 0 vG rfl (GRow.below IV.out.rowG b2.out) (some ⟨wm.heap.size, 0, none⟩) 1 1 [.slice al nl cl] rfl rfl (lies_one _ _ _) (by simp [Value.oneCell']) (by nofun) (by omega) (by have := b2.out.size; omega) ?_; intro v5 x3 q1 q2 q3)
        have K3 := hide (grown_keep q2)
        have G3 := hide q1
        have O3 := hide (show v5.ownBlock = (Value.slice a5 0 c5).ownBlock ∨ ∃ z, v5.ownBlock = some z ∧ (wm.alloc (.cells #[.slice al nl cl] 23)).heap.size ≤ z from q3.imp id (fun q => ⟨_, q, Nat.le_refl _⟩))
        have hs3 : wm.heap.size + 1 ≤ x3.heap.size := by have := q2.size; simp at this; omega
        have RL3 := hide (show GRow x3 w3.heap.size 28 2 (.slice al nl cl) nl (drs (R 0)) by have := GRow.keep HX.out K3.out (fun g hg s => by have h1 := HV.out g hg; have h2 := (World.ownsRow.lt IV.out.rowG g s).2; omega); rw [← HNL.out] at this; exact this)
        obtain ⟨a3, c3, e3, LI3, hle3, -, hn3, -⟩ := GRow.lies RL3.out
        cases e3
        have LI := hide LI3
        have W3 := hide (IV.out.wKeep b2.out K3.out)
        obtain ⟨a55, c55, e55, -⟩ := GRow.lies q1
        subst e55
        clear q1 q2 q3 LI3
        have HNIL := hide (show al = none → cl = 0 ∧ nl = 0 from fun q => by have := hn3 q; omega)
        clear hn3 hle3
        go_upto_region 9 with (at_builtin; first | (refine wpList_appR Try.underlying23 info28 rfl (by decide) (by decide) rfl (.const (.slice none 0 0)) (.tmp _) rfl x3.heap.size (.slice none 0 0) 0 [] rfl (World.ownsRow_nil _ _ _ _) al nl cl (drs (R 0)) rfl (by rw [drs_len, ← HNL.out]) LI.out (drs_one _) HNIL.out (by omega) (Nat.le_refl _) ?_; intro v6 x4 r1 r2 r3; rw [Nat.zero_add, List.nil_append] at r1; obtain ⟨aw, cw, ew, -⟩ := GRow.lies r1; subst ew; have CW := hide r1; have b4 := hide (((Below.refl x3.heap.size x3).grown r2 (Nat.le_refl _) (fun j hj => by cases hj)).alloc r2.size (.cells #[.slice aw nl cw] 23)); clear r1 r2 r3) | (refine wpList_appR Try.underlying34 info23 info23z (by decide) (by decide) rfl (.tmp _) (.tmp _) rfl w3.heap.size (.slice a6 0 c6) 0 vW rfl (GRow.below W3.out b4.out) (some ⟨x4.heap.size, 0, none⟩) 1 1 [.slice aw nl cw] rfl rfl (lies_one _ _ _) (by simp [Value.oneCell']) (by nofun) (by omega) (by have := b4.out.size; have := b2.out.size; omega) ?_; intro v7 x5 s1 s2 s3; obtain ⟨a77, c77, e77, -⟩ := GRow.lies s1; subst e77))
        have C4 := hide (show GRow (x4.alloc (.cells #[.slice aw nl cw] 23)) w3.heap.size 28 2 (.slice aw nl cw) (R 0).length (drs (R 0)) by rw [← HNL.out]; exact GRow.mono (GRow.below CW.out (alloc_below _ _)) (by omega))
        obtain ⟨lab2, I2, inv2⟩ := Inv.more IV.out HX.out HV.out b2.out G3.out K3.out O3.out C4.out b4.out (fun g hg => (World.ownsRow.lt CW.out g hg).1) s1 (grown_keep s2) (s3.imp id (fun q => ⟨_, q, Nat.le_refl _⟩))
        have IV2 := hide inv2
        have BF := hide (show Below w3.heap.size w3 x5 from (HB.out.trans (b2.out.mono HB.out.size)).trans (((K3.out.below (by have := b2.out.size; have := HB.out.size; omega) (fun z hz q => by have := (World.ownsRow.lt IV.out.rowG z q).1; omega)).trans (b4.out.mono (by omega))).trans ((grown_keep s2).below (by have := b4.out.size; omega) (fun z hz q => by have := (World.ownsRow.lt IV.out.rowW z q).1; omega))))
        go_wp2_with fail
        go_roundw
        case rel => first | exact ⟨1, lab2, I2, _, _, by go_num, by omega, IV2.out, BF.out⟩ | ((repeat apply Exists.intro); exact ⟨⟨1, lab2, I2, _, _, by go_num, by omega, IV2.out, BF.out⟩, rfl⟩)
        case measure => simp [intOf]
      · go_wp2_with fail
        refine (merged_g pa pb ma mb da db qa qb (mg qa qb) _ (Sa.out.below HB.out) (Sb.out.below HB.out) Fa.out Fb.out rfl).mono ?_
        rintro e wn ⟨ax, nx, cx, rfl, -, -, bb⟩
        have QA := hide bb
        have HBN := hide (bnext HB.out bb (Nat.le_refl _))
        clear bb
        go_wp2_with fail
        refine (merged_g pb none mb 0 db 0 qb [] (R 1) _ (Sb.out.below HBN.out) (Sl.nil _) Fb.out Fine.nil M1.out).mono ?_
        rintro e wm ⟨al, nl, cl, rfl, hnl, rl, bb⟩
        have hbase : wr.heap.size ≤ wn.heap.size := QA.out.size
        have QB := hide (bnext QA.out bb (Nat.le_refl _))
        clear QA HBN
        have RL := hide rl
        have HNL := hide hnl
        have hnn : nl ≤ 64 := by rw [hnl]; exact HTL.out _
        have hsm : wr.heap.size ≤ wm.heap.size := QB.out.size
        have HX := hide (show GRow (wm.alloc (.cells #[.slice al nl cl] 23)) w3.heap.size 28 2 (.slice al nl cl) (R 1).length (drs (R 1)) by rw [← HNL.out]; exact GRow.mono (GRow.below RL.out (alloc_below _ _)) (by omega))
        have HV := hide (show ∀ g, (Value.slice al nl cl).ownBlock = some g → wr.heap.size ≤ g from fun g hg => by have := (World.ownsRow.lt RL.out g hg).1; omega)
        have b2 := hide (QB.out.alloc hsm (.cells #[.slice al nl cl] 23))
        clear rl hnl bb
        go_upto_region 16 with (at_builtin; refine wpList_appR Try.underlying34 info23 info23z (by decide) (by decide) rfl (.tmp _) (.tmp _) rfl w3.heap.size (.slice a5 1 c5) 1 vG rfl (GRow.below IV.out.rowG b2.out) (some ⟨wm.heap.size, 0, none⟩) 1 1 [.slice al nl cl] rfl rfl (lies_one _ _ _) (by simp [Value.oneCell']) (by nofun) (by omega) (by have := b2.out.size; omega) ?_; intro v5 x3 q1 q2 q3)
        have K3 := hide (grown_keep q2)
        have G3 := hide q1
        have O3 := hide (show v5.ownBlock = (Value.slice a5 1 c5).ownBlock ∨ ∃ z, v5.ownBlock = some z ∧ (wm.alloc (.cells #[.slice al nl cl] 23)).heap.size ≤ z from q3.imp id (fun q => ⟨_, q, Nat.le_refl _⟩))
        have hs3 : wm.heap.size + 1 ≤ x3.heap.size := by have := q2.size; simp at this; omega
        have RL3 := hide (show GRow x3 w3.heap.size 28 2 (.slice al nl cl) nl (drs (R 1)) by have := GRow.keep HX.out K3.out (fun g hg s => by have h1 := HV.out g hg; have h2 := (World.ownsRow.lt IV.out.rowG g s).2; omega); rw [← HNL.out] at this; exact this)
        obtain ⟨a3, c3, e3, LI3, hle3, -, hn3, -⟩ := GRow.lies RL3.out
        cases e3
        have LI := hide LI3
        have W3 := hide (IV.out.wKeep b2.out K3.out)
        obtain ⟨a55, c55, e55, -⟩ := GRow.lies q1
        subst e55
        clear q1 q2 q3 LI3
        have HNIL := hide (show al = none → cl = 0 ∧ nl = 0 from fun q => by have := hn3 q; omega)
        clear hn3 hle3
        go_upto_region 9 with (at_builtin; first | (refine wpList_appR Try.underlying23 info28 rfl (by decide) (by decide) rfl (.const (.slice none 0 0)) (.tmp _) rfl x3.heap.size (.slice none 0 0) 0 [] rfl (World.ownsRow_nil _ _ _ _) al nl cl (drs (R 1)) rfl (by rw [drs_len, ← HNL.out]) LI.out (drs_one _) HNIL.out (by omega) (Nat.le_refl _) ?_; intro v6 x4 r1 r2 r3; rw [Nat.zero_add, List.nil_append] at r1; obtain ⟨aw, cw, ew, -⟩ := GRow.lies r1; subst ew; have CW := hide r1; have b4 := hide (((Below.refl x3.heap.size x3).grown r2 (Nat.le_refl _) (fun j hj => by cases hj)).alloc r2.size (.cells #[.slice aw nl cw] 23)); clear r1 r2 r3) | (refine wpList_appR Try.underlying34 info23 info23z (by decide) (by decide) rfl (.tmp _) (.tmp _) rfl w3.heap.size (.slice a6 1 c6) 1 vW rfl (GRow.below W3.out b4.out) (some ⟨x4.heap.size, 0, none⟩) 1 1 [.slice aw nl cw] rfl rfl (lies_one _ _ _) (by simp [Value.oneCell']) (by nofun) (by omega) (by have := b4.out.size; have := b2.out.size; omega) ?_; intro v7 x5 s1 s2 s3; obtain ⟨a77, c77, e77, -⟩ := GRow.lies s1; subst e77))
        have C4 := hide (show GRow (x4.alloc (.cells #[.slice aw nl cw] 23)) w3.heap.size 28 2 (.slice aw nl cw) (R 1).length (drs (R 1)) by rw [← HNL.out]; exact GRow.mono (GRow.below CW.out (alloc_below _ _)) (by omega))
        obtain ⟨lab2, I2, inv2⟩ := Inv.more IV.out HX.out HV.out b2.out G3.out K3.out O3.out C4.out b4.out (fun g hg => (World.ownsRow.lt CW.out g hg).1) s1 (grown_keep s2) (s3.imp id (fun q => ⟨_, q, Nat.le_refl _⟩))
        have IV2 := hide inv2
        have BF := hide (show Below w3.heap.size w3 x5 from (HB.out.trans (b2.out.mono HB.out.size)).trans (((K3.out.below (by have := b2.out.size; have := HB.out.size; omega) (fun z hz q => by have := (World.ownsRow.lt IV.out.rowG z q).1; omega)).trans (b4.out.mono (by omega))).trans ((grown_keep s2).below (by have := b4.out.size; omega) (fun z hz q => by have := (World.ownsRow.lt IV.out.rowW z q).1; omega))))
        go_wp2_with fail
        go_roundw
        case rel => first | exact ⟨2, lab2, I2, _, _, by go_num, by omega, IV2.out, BF.out⟩ | ((repeat apply Exists.intro); exact ⟨⟨2, lab2, I2, _, _, by go_num, by omega, IV2.out, BF.out⟩, rfl⟩)
        case measure => simp [intOf]
      · go_wp2_with fail
        refine (merged_g pa pb ma mb da db qa qb (mg qa qb) _ (Sa.out.below HB.out) (Sb.out.below HB.out) Fa.out Fb.out rfl).mono ?_
        rintro e wn ⟨ax, nx, cx, rfl, -, -, bb⟩
        have QA := hide bb
        have HBN := hide (bnext HB.out bb (Nat.le_refl _))
        clear bb
        go_wp2_with fail
        refine (merged_g none pa 0 ma 0 da [] qa (R 2) _ (Sl.nil _) (Sa.out.below HBN.out) Fine.nil Fa.out M2.out).mono ?_
        rintro e wm ⟨al, nl, cl, rfl, hnl, rl, bb⟩
        have hbase : wr.heap.size ≤ wn.heap.size := QA.out.size
        have QB := hide (bnext QA.out bb (Nat.le_refl _))
        clear QA HBN
        have RL := hide rl
        have HNL := hide hnl
        have hnn : nl ≤ 64 := by rw [hnl]; exact HTL.out _
        have hsm : wr.heap.size ≤ wm.heap.size := QB.out.size
        have HX := hide (show GRow (wm.alloc (.cells #[.slice al nl cl] 23)) w3.heap.size 28 2 (.slice al nl cl) (R 2).length (drs (R 2)) by rw [← HNL.out]; exact GRow.mono (GRow.below RL.out (alloc_below _ _)) (by omega))
        have HV := hide (show ∀ g, (Value.slice al nl cl).ownBlock = some g → wr.heap.size ≤ g from fun g hg => by have := (World.ownsRow.lt RL.out g hg).1; omega)
        have b2 := hide (QB.out.alloc hsm (.cells #[.slice al nl cl] 23))
        clear rl hnl bb
        go_upto_region 16 with (at_builtin; refine wpList_appR Try.underlying34 info23 info23z (by decide) (by decide) rfl (.tmp _) (.tmp _) rfl w3.heap.size (.slice a5 2 c5) 2 vG rfl (GRow.below IV.out.rowG b2.out) (some ⟨wm.heap.size, 0, none⟩) 1 1 [.slice al nl cl] rfl rfl (lies_one _ _ _) (by simp [Value.oneCell']) (by nofun) (by omega) (by have := b2.out.size; omega) ?_; intro v5 x3 q1 q2 q3)
        have K3 := hide (grown_keep q2)
        have G3 := hide q1
        have O3 := hide (show v5.ownBlock = (Value.slice a5 2 c5).ownBlock ∨ ∃ z, v5.ownBlock = some z ∧ (wm.alloc (.cells #[.slice al nl cl] 23)).heap.size ≤ z from q3.imp id (fun q => ⟨_, q, Nat.le_refl _⟩))
        have hs3 : wm.heap.size + 1 ≤ x3.heap.size := by have := q2.size; simp at this; omega
        have RL3 := hide (show GRow x3 w3.heap.size 28 2 (.slice al nl cl) nl (drs (R 2)) by have := GRow.keep HX.out K3.out (fun g hg s => by have h1 := HV.out g hg; have h2 := (World.ownsRow.lt IV.out.rowG g s).2; omega); rw [← HNL.out] at this; exact this)
        obtain ⟨a3, c3, e3, LI3, hle3, -, hn3, -⟩ := GRow.lies RL3.out
        cases e3
        have LI := hide LI3
        have W3 := hide (IV.out.wKeep b2.out K3.out)
        obtain ⟨a55, c55, e55, -⟩ := GRow.lies q1
        subst e55
        clear q1 q2 q3 LI3
        have HNIL := hide (show al = none → cl = 0 ∧ nl = 0 from fun q => by have := hn3 q; omega)
        clear hn3 hle3
        go_upto_region 9 with (at_builtin; first | (refine wpList_appR Try.underlying23 info28 rfl (by decide) (by decide) rfl (.const (.slice none 0 0)) (.tmp _) rfl x3.heap.size (.slice none 0 0) 0 [] rfl (World.ownsRow_nil _ _ _ _) al nl cl (drs (R 2)) rfl (by rw [drs_len, ← HNL.out]) LI.out (drs_one _) HNIL.out (by omega) (Nat.le_refl _) ?_; intro v6 x4 r1 r2 r3; rw [Nat.zero_add, List.nil_append] at r1; obtain ⟨aw, cw, ew, -⟩ := GRow.lies r1; subst ew; have CW := hide r1; have b4 := hide (((Below.refl x3.heap.size x3).grown r2 (Nat.le_refl _) (fun j hj => by cases hj)).alloc r2.size (.cells #[.slice aw nl cw] 23)); clear r1 r2 r3) | (refine wpList_appR Try.underlying34 info23 info23z (by decide) (by decide) rfl (.tmp _) (.tmp _) rfl w3.heap.size (.slice a6 2 c6) 2 vW rfl (GRow.below W3.out b4.out) (some ⟨x4.heap.size, 0, none⟩) 1 1 [.slice aw nl cw] rfl rfl (lies_one _ _ _) (by simp [Value.oneCell']) (by nofun) (by omega) (by have := b4.out.size; have := b2.out.size; omega) ?_; intro v7 x5 s1 s2 s3; obtain ⟨a77, c77, e77, -⟩ := GRow.lies s1; subst e77))
        have C4 := hide (show GRow (x4.alloc (.cells #[.slice aw nl cw] 23)) w3.heap.size 28 2 (.slice aw nl cw) (R 2).length (drs (R 2)) by rw [← HNL.out]; exact GRow.mono (GRow.below CW.out (alloc_below _ _)) (by omega))
        obtain ⟨lab2, I2, inv2⟩ := Inv.more IV.out HX.out HV.out b2.out G3.out K3.out O3.out C4.out b4.out (fun g hg => (World.ownsRow.lt CW.out g hg).1) s1 (grown_keep s2) (s3.imp id (fun q => ⟨_, q, Nat.le_refl _⟩))
        have IV2 := hide inv2
        have BF := hide (show Below w3.heap.size w3 x5 from (HB.out.trans (b2.out.mono HB.out.size)).trans (((K3.out.below (by have := b2.out.size; have := HB.out.size; omega) (fun z hz q => by have := (World.ownsRow.lt IV.out.rowG z q).1; omega)).trans (b4.out.mono (by omega))).trans ((grown_keep s2).below (by have := b4.out.size; omega) (fun z hz q => by have := (World.ownsRow.lt IV.out.rowW z q).1; omega))))
        go_wp2_with fail
        go_roundw
        case rel => first | exact ⟨3, lab2, I2, _, _, by go_num, by omega, IV2.out, BF.out⟩ | ((repeat apply Exists.intro); exact ⟨⟨3, lab2, I2, _, _, by go_num, by omega, IV2.out, BF.out⟩, rfl⟩)
        case measure => simp [intOf]
      · go_wp2_with fail
        refine (merged_g pa pb ma mb da db qa qb (R 3) _ (Sa.out.below HB.out) (Sb.out.below HB.out) Fa.out Fb.out M3.out).mono ?_
        rintro e wm ⟨al, nl, cl, rfl, hnl, rl, bb⟩
        have QB := hide bb
        have hbase : wr.heap.size ≤ wr.heap.size := Nat.le_refl _
        have RL := hide rl
        have HNL := hide hnl
        have hnn : nl ≤ 64 := by rw [hnl]; exact HTL.out _
        have hsm : wr.heap.size ≤ wm.heap.size := QB.out.size
        have HX := hide (show GRow (wm.alloc (.cells #[.slice al nl cl] 23)) w3.heap.size 28 2 (.slice al nl cl) (R 3).length (drs (R 3)) by rw [← HNL.out]; exact GRow.mono (GRow.below RL.out (alloc_below _ _)) (by omega))
        have HV := hide (show ∀ g, (Value.slice al nl cl).ownBlock = some g → wr.heap.size ≤ g from fun g hg => by have := (World.ownsRow.lt RL.out g hg).1; omega)
        have b2 := hide (QB.out.alloc hsm (.cells #[.slice al nl cl] 23))
        clear rl hnl bb
        go_upto_region 16 with (at_builtin; refine wpList_appR Try.underlying34 info23 info23z (by decide) (by decide) rfl (.tmp _) (.tmp _) rfl w3.heap.size (.slice a5 3 c5) 3 vG rfl (GRow.below IV.out.rowG b2.out) (some ⟨wm.heap.size, 0, none⟩) 1 1 [.slice al nl cl] rfl rfl (lies_one _ _ _) (by simp [Value.oneCell']) (by nofun) (by omega) (by have := b2.out.size; omega) ?_; intro v5 x3 q1 q2 q3)
        have K3 := hide (grown_keep q2)
        have G3 := hide q1
        have O3 := hide (show v5.ownBlock = (Value.slice a5 3 c5).ownBlock ∨ ∃ z, v5.ownBlock = some z ∧ (wm.alloc (.cells #[.slice al nl cl] 23)).heap.size ≤ z from q3.imp id (fun q => ⟨_, q, Nat.le_refl _⟩))
        have hs3 : wm.heap.size + 1 ≤ x3.heap.size := by have := q2.size; simp at this; omega
        have RL3 := hide (show GRow x3 w3.heap.size 28 2 (.slice al nl cl) nl (drs (R 3)) by have := GRow.keep HX.out K3.out (fun g hg s => by have h1 := HV.out g hg; have h2 := (World.ownsRow.lt IV.out.rowG g s).2; omega); rw [← HNL.out] at this; exact this)
        obtain ⟨a3, c3, e3, LI3, hle3, -, hn3, -⟩ := GRow.lies RL3.out
        cases e3
        have LI := hide LI3
        have W3 := hide (IV.out.wKeep b2.out K3.out)
        obtain ⟨a55, c55, e55, -⟩ := GRow.lies q1
        subst e55
        clear q1 q2 q3 LI3
        have HNIL := hide (show al = none → cl = 0 ∧ nl = 0 from fun q => by have := hn3 q; omega)
        clear hn3 hle3
        go_upto_region 9 with (at_builtin; first | (refine wpList_appR Try.underlying23 info28 rfl (by decide) (by decide) rfl (.const (.slice none 0 0)) (.tmp _) rfl x3.heap.size (.slice none 0 0) 0 [] rfl (World.ownsRow_nil _ _ _ _) al nl cl (drs (R 3)) rfl (by rw [drs_len, ← HNL.out]) LI.out (drs_one _) HNIL.out (by omega) (Nat.le_refl _) ?_; intro v6 x4 r1 r2 r3; rw [Nat.zero_add, List.nil_append] at r1; obtain ⟨aw, cw, ew, -⟩ := GRow.lies r1; subst ew; have CW := hide r1; have b4 := hide (((Below.refl x3.heap.size x3).grown r2 (Nat.le_refl _) (fun j hj => by cases hj)).alloc r2.size (.cells #[.slice aw nl cw] 23)); clear r1 r2 r3) | (refine wpList_appR Try.underlying34 info23 info23z (by decide) (by decide) rfl (.tmp _) (.tmp _) rfl w3.heap.size (.slice a6 3 c6) 3 vW rfl (GRow.below W3.out b4.out) (some ⟨x4.heap.size, 0, none⟩) 1 1 [.slice aw nl cw] rfl rfl (lies_one _ _ _) (by simp [Value.oneCell']) (by nofun) (by omega) (by have := b4.out.size; have := b2.out.size; omega) ?_; intro v7 x5 s1 s2 s3; obtain ⟨a77, c77, e77, -⟩ := GRow.lies s1; subst e77))
        have C4 := hide (show GRow (x4.alloc (.cells #[.slice aw nl cw] 23)) w3.heap.size 28 2 (.slice aw nl cw) (R 3).length (drs (R 3)) by rw [← HNL.out]; exact GRow.mono (GRow.below CW.out (alloc_below _ _)) (by omega))
        obtain ⟨lab2, I2, inv2⟩ := Inv.more IV.out HX.out HV.out b2.out G3.out K3.out O3.out C4.out b4.out (fun g hg => (World.ownsRow.lt CW.out g hg).1) s1 (grown_keep s2) (s3.imp id (fun q => ⟨_, q, Nat.le_refl _⟩))
        have IV2 := hide inv2
        have BF := hide (show Below w3.heap.size w3 x5 from (HB.out.trans (b2.out.mono HB.out.size)).trans (((K3.out.below (by have := b2.out.size; have := HB.out.size; omega) (fun z hz q => by have := (World.ownsRow.lt IV.out.rowG z q).1; omega)).trans (b4.out.mono (by omega))).trans ((grown_keep s2).below (by have := b4.out.size; omega) (fun z hz q => by have := (World.ownsRow.lt IV.out.rowW z q).1; omega))))
        go_wp2_with fail
        go_roundw
        case rel => first | exact ⟨4, lab2, I2, _, _, by go_num, by omega, IV2.out, BF.out⟩ | ((repeat apply Exists.intro); exact ⟨⟨4, lab2, I2, _, _, by go_num, by omega, IV2.out, BF.out⟩, rfl⟩)
        case measure => simp [intOf]
      · go_wp2_with fail
        refine (merged_g pa pb ma mb da db qa qb (mg qa qb) _ (Sa.out.below HB.out) (Sb.out.below HB.out) Fa.out Fb.out rfl).mono ?_
        rintro e wn ⟨ax, nx, cx, rfl, -, -, bb⟩
        have QA := hide bb
        have HBN := hide (bnext HB.out bb (Nat.le_refl _))
        clear bb
        go_wp2_with fail
        refine (merged_g pb none mb 0 db 0 qb [] (R 4) _ (Sb.out.below HBN.out) (Sl.nil _) Fb.out Fine.nil M4.out).mono ?_
        rintro e wm ⟨al, nl, cl, rfl, hnl, rl, bb⟩
        have hbase : wr.heap.size ≤ wn.heap.size := QA.out.size
        have QB := hide (bnext QA.out bb (Nat.le_refl _))
        clear QA HBN
        have RL := hide rl
        have HNL := hide hnl
        have hnn : nl ≤ 64 := by rw [hnl]; exact HTL.out _
        have hsm : wr.heap.size ≤ wm.heap.size := QB.out.size
        have HX := hide (show GRow (wm.alloc (.cells #[.slice al nl cl] 23)) w3.heap.size 28 2 (.slice al nl cl) (R 4).length (drs (R 4)) by rw [← HNL.out]; exact GRow.mono (GRow.below RL.out (alloc_below _ _)) (by omega))
        have HV := hide (show ∀ g, (Value.slice al nl cl).ownBlock = some g → wr.heap.size ≤ g from fun g hg => by have := (World.ownsRow.lt RL.out g hg).1; omega)
        have b2 := hide (QB.out.alloc hsm (.cells #[.slice al nl cl] 23))
        clear rl hnl bb
        go_upto_region 16 with (at_builtin; refine wpList_appR Try.underlying34 info23 info23z (by decide) (by decide) rfl (.tmp _) (.tmp _) rfl w3.heap.size (.slice a5 4 c5) 4 vG rfl (GRow.below IV.out.rowG b2.out) (some ⟨wm.heap.size, 0, none⟩) 1 1 [.slice al nl cl] rfl rfl (lies_one _ _ _) (by simp [Value.oneCell']) (by nofun) (by omega) (by have := b2.out.size; omega) ?_; intro v5 x3 q1 q2 q3)
        have K3 := hide (grown_keep q2)
        have G3 := hide q1
        have O3 := hide (show v5.ownBlock = (Value.slice a5 4 c5).ownBlock ∨ ∃ z, v5.ownBlock = some z ∧ (wm.alloc (.cells #[.slice al nl cl] 23)).heap.size ≤ z from q3.imp id (fun q => ⟨_, q, Nat.le_refl _⟩))
        have hs3 : wm.heap.size + 1 ≤ x3.heap.size := by have := q2.size; simp at this; omega
        have RL3 := hide (show GRow x3 w3.heap.size 28 2 (.slice al nl cl) nl (drs (R 4)) by have := GRow.keep HX.out K3.out (fun g hg s => by have h1 := HV.out g hg; have h2 := (World.ownsRow.lt IV.out.rowG g s).2; omega); rw [← HNL.out] at this; exact this)
        obtain ⟨a3, c3, e3, LI3, hle3, -, hn3, -⟩ := GRow.lies RL3.out
        cases e3
        have LI := hide LI3
        have W3 := hide (IV.out.wKeep b2.out K3.out)
        obtain ⟨a55, c55, e55, -⟩ := GRow.lies q1
        subst e55
        clear q1 q2 q3 LI3
        have HNIL := hide (show al = none → cl = 0 ∧ nl = 0 from fun q => by have := hn3 q; omega)
        clear hn3 hle3
        go_upto_region 9 with (at_builtin; first | (refine wpList_appR Try.underlying23 info28 rfl (by decide) (by decide) rfl (.const (.slice none 0 0)) (.tmp _) rfl x3.heap.size (.slice none 0 0) 0 [] rfl (World.ownsRow_nil _ _ _ _) al nl cl (drs (R 4)) rfl (by rw [drs_len, ← HNL.out]) LI.out (drs_one _) HNIL.out (by omega) (Nat.le_refl _) ?_; intro v6 x4 r1 r2 r3; rw [Nat.zero_add, List.nil_append] at r1; obtain ⟨aw, cw, ew, -⟩ := GRow.lies r1; subst ew; have CW := hide r1; have b4 := hide (((Below.refl x3.heap.size x3).grown r2 (Nat.le_refl _) (fun j hj => by cases hj)).alloc r2.size (.cells #[.slice aw nl cw] 23)); clear r1 r2 r3) | (refine wpList_appR Try.underlying34 info23 info23z (by decide) (by decide) rfl (.tmp _) (.tmp _) rfl w3.heap.size (.slice a6 4 c6) 4 vW rfl (GRow.below W3.out b4.out) (some ⟨x4.heap.size, 0, none⟩) 1 1 [.slice aw nl cw] rfl rfl (lies_one _ _ _) (by simp [Value.oneCell']) (by nofun) (by omega) (by have := b4.out.size; have := b2.out.size; omega) ?_; intro v7 x5 s1 s2 s3; obtain ⟨a77, c77, e77, -⟩ := GRow.lies s1; subst e77))
        have C4 := hide (show GRow (x4.alloc (.cells #[.slice aw nl cw] 23)) w3.heap.size 28 2 (.slice aw nl cw) (R 4).length (drs (R 4)) by rw [← HNL.out]; exact GRow.mono (GRow.below CW.out (alloc_below _ _)) (by omega))
        obtain ⟨lab2, I2, inv2⟩ := Inv.more IV.out HX.out HV.out b2.out G3.out K3.out O3.out C4.out b4.out (fun g hg => (World.ownsRow.lt CW.out g hg).1) s1 (grown_keep s2) (s3.imp id (fun q => ⟨_, q, Nat.le_refl _⟩))
        have IV2 := hide inv2
        have BF := hide (show Below w3.heap.size w3 x5 from (HB.out.trans (b2.out.mono HB.out.size)).trans (((K3.out.below (by have := b2.out.size; have := HB.out.size; omega) (fun z hz q => by have := (World.ownsRow.lt IV.out.rowG z q).1; omega)).trans (b4.out.mono (by omega))).trans ((grown_keep s2).below (by have := b4.out.size; omega) (fun z hz q => by have := (World.ownsRow.lt IV.out.rowW z q).1; omega))))
        go_wp2_with fail
        go_roundw
        case rel => first | exact ⟨5, lab2, I2, _, _, by go_num, by omega, IV2.out, BF.out⟩ | ((repeat apply Exists.intro); exact ⟨⟨5, lab2, I2, _, _, by go_num, by omega, IV2.out, BF.out⟩, rfl⟩)
        case measure => simp [intOf]
      · go_wp2_with fail
        refine (merged_g pa pb ma mb da db qa qb (mg qa qb) _ (Sa.out.below HB.out) (Sb.out.below HB.out) Fa.out Fb.out rfl).mono ?_
        rintro e wn ⟨ax, nx, cx, rfl, -, -, bb⟩
        have QA := hide bb
        have HBN := hide (bnext HB.out bb (Nat.le_refl _))
        clear bb
        go_wp2_with fail
        refine (merged_g none pa 0 ma 0 da [] qa (R 5) _ (Sl.nil _) (Sa.out.below HBN.out) Fine.nil Fa.out M5.out).mono ?_
        rintro e wm ⟨al, nl, cl, rfl, hnl, rl, bb⟩
        have hbase : wr.heap.size ≤ wn.heap.size := QA.out.size
        have QB := hide (bnext QA.out bb (Nat.le_refl _))
        clear QA HBN
        have RL := hide rl
        have HNL := hide hnl
        have hnn : nl ≤ 64 := by rw [hnl]; exact HTL.out _
        have hsm : wr.heap.size ≤ wm.heap.size := QB.out.size
        have HX := hide (show GRow (wm.alloc (.cells #[.slice al nl cl] 23)) w3.heap.size 28 2 (.slice al nl cl) (R 5).length (drs (R 5)) by rw [← HNL.out]; exact GRow.mono (GRow.below RL.out (alloc_below _ _)) (by omega))
        have HV := hide (show ∀ g, (Value.slice al nl cl).ownBlock = some g → wr.heap.size ≤ g from fun g hg => by have := (World.ownsRow.lt RL.out g hg).1; omega)
        have b2 := hide (QB.out.alloc hsm (.cells #[.slice al nl cl] 23))
        clear rl hnl bb
        go_upto_region 16 with (at_builtin; refine wpList_appR Try.underlying34 info23 info23z (by decide) (by decide) rfl (.tmp _) (.tmp _) rfl w3.heap.size (.slice a5 5 c5) 5 vG rfl (GRow.below IV.out.rowG b2.out) (some ⟨wm.heap.size, 0, none⟩) 1 1 [.slice al nl cl] rfl rfl (lies_one _ _ _) (by simp [Value.oneCell']) (by nofun) (by omega) (by have := b2.out.size; omega) ?_; intro v5 x3 q1 q2 q3)
        have K3 := hide (grown_keep q2)
        have G3 := hide q1
        have O3 := hide (show v5.ownBlock = (Value.slice a5 5 c5).ownBlock ∨ ∃ z, v5.ownBlock = some z ∧ (wm.alloc (.cells #[.slice al nl cl] 23)).heap.size ≤ z from q3.imp id (fun q => ⟨_, q, Nat.le_refl _⟩))
        have hs3 : wm.heap.size + 1 ≤ x3.heap.size := by have := q2.size; simp at this; omega
        have RL3 := hide (show GRow x3 w3.heap.size 28 2 (.slice al nl cl) nl (drs (R 5)) by have := GRow.keep HX.out K3.out (fun g hg s => by have h1 := HV.out g hg; have h2 := (World.ownsRow.lt IV.out.rowG g s).2; omega); rw [← HNL.out] at this; exact this)
        obtain ⟨a3, c3, e3, LI3, hle3, -, hn3, -⟩ := GRow.lies RL3.out
        cases e3
        have LI := hide LI3
        have W3 := hide (IV.out.wKeep b2.out K3.out)
        obtain ⟨a55, c55, e55, -⟩ := GRow.lies q1
        subst e55
        clear q1 q2 q3 LI3
        have HNIL := hide (show al = none → cl = 0 ∧ nl = 0 from fun q => by have := hn3 q; omega)
        clear hn3 hle3
        go_upto_region 9 with (at_builtin; first | (refine wpList_appR Try.underlying23 info28 rfl (by decide) (by decide) rfl (.const (.slice none 0 0)) (.tmp _) rfl x3.heap.size (.slice none 0 0) 0 [] rfl (World.ownsRow_nil _ _ _ _) al nl cl (drs (R 5)) rfl (by rw [drs_len, ← HNL.out]) LI.out (drs_one _) HNIL.out (by omega) (Nat.le_refl _) ?_; intro v6 x4 r1 r2 r3; rw [Nat.zero_add, List.nil_append] at r1; obtain ⟨aw, cw, ew, -⟩ := GRow.lies r1; subst ew; have CW := hide r1; have b4 := hide (((Below.refl x3.heap.size x3).grown r2 (Nat.le_refl _) (fun j hj => by cases hj)).alloc r2.size (.cells #[.slice aw nl cw] 23)); clear r1 r2 r3) | (refine wpList_appR Try.underlying34 info23 info23z (by decide) (by decide) rfl (.tmp _) (.tmp _) rfl w3.heap.size (.slice a6 5 c6) 5 vW rfl (GRow.below W3.out b4.out) (some ⟨x4.heap.size, 0, none⟩) 1 1 [.slice aw nl cw] rfl rfl (lies_one _ _ _) (by simp [Value.oneCell']) (by nofun) (by omega) (by have := b4.out.size; have := b2.out.size; omega) ?_; intro v7 x5 s1 s2 s3; obtain ⟨a77, c77, e77, -⟩ := GRow.lies s1; subst e77))
        have C4 := hide (show GRow (x4.alloc (.cells #[.slice aw nl cw] 23)) w3.heap.size 28 2 (.slice aw nl cw) (R 5).length (drs (R 5)) by rw [← HNL.out]; exact GRow.mono (GRow.below CW.out (alloc_below _ _)) (by omega))
        obtain ⟨lab2, I2, inv2⟩ := Inv.more IV.out HX.out HV.out b2.out G3.out K3.out O3.out C4.out b4.out (fun g hg => (World.ownsRow.lt CW.out g hg).1) s1 (grown_keep s2) (s3.imp id (fun q => ⟨_, q, Nat.le_refl _⟩))
        have IV2 := hide inv2
        have BF := hide (show Below w3.heap.size w3 x5 from (HB.out.trans (b2.out.mono HB.out.size)).trans (((K3.out.below (by have := b2.out.size; have := HB.out.size; omega) (fun z hz q => by have := (World.ownsRow.lt IV.out.rowG z q).1; omega)).trans (b4.out.mono (by omega))).trans ((grown_keep s2).below (by have := b4.out.size; omega) (fun z hz q => by have := (World.ownsRow.lt IV.out.rowW z q).1; omega))))
        go_wp2_with fail
        go_roundw
        case rel => first | exact ⟨6, lab2, I2, _, _, by go_num, by omega, IV2.out, BF.out⟩ | ((repeat apply Exists.intro); exact ⟨⟨6, lab2, I2, _, _, by go_num, by omega, IV2.out, BF.out⟩, rfl⟩)
        case measure => simp [intOf]
    · obtain rfl : t = 6 := by omega
      obtain ⟨wx, hwx⟩ : ∃ x, x = wr := ⟨_, rfl⟩
      subst hwx
      obtain ⟨n, hn⟩ : ∃ n : Nat → Nat, n = fun k => (R k).length := ⟨_, rfl⟩
      have hnk : ∀ k, (R k).length = n k := fun k => by rw [hn]
      have HNK := hide hnk
      have hn64 : ∀ k, n k ≤ 64 := fun k => by rw [← hnk]; exact HTL.out k
      have hlg := IV.out.lg
      have hlw := IV.out.lw
      obtain ⟨A, C, hAC⟩ := vals (vG := vG) (n := n) (fun k hk => by obtain ⟨a, c, e, -⟩ := GRow.lies (IV.out.itG hk); exact ⟨a, c, by rw [e, hnk]⟩)
      obtain ⟨A2, C2, hAC2⟩ := vals (vG := vW) (n := n) (fun k hk => by obtain ⟨a, c, e, -⟩ := GRow.lies (IV.out.itW hk); exact ⟨a, c, by rw [e, hnk]⟩)
      rw [hlg] at hAC
      rw [hlw] at hAC2
      have getG : ∀ k (hk : k < vG.length), vG[k] = .slice (A k) (n k) (C k) := fun k hk => by have := hAC k (by omega); rw [List.getElem?_eq_getElem hk] at this; exact Option.some.inj this
      have getW : ∀ k (hk : k < vW.length), vW[k] = .slice (A2 k) (n k) (C2 k) := fun k hk => by have := hAC2 k (by omega); rw [List.getElem?_eq_getElem hk] at this; exact Option.some.inj this
      obtain ⟨b5, e5, L5, -⟩ := row_cell IV.out.rowG (hAC 0 (by omega))
      obtain ⟨b6, e6, L6, -⟩ := row_cell IV.out.rowW (hAC2 0 (by omega))
      subst e5 e6
      have CELG := hide (show ∀ k, k < 6 → wx.cell? ⟨b5, k, none⟩ = some (.slice (A k) (n k) (C k)) from fun k hk => by obtain ⟨b, e, -, h⟩ := row_cell IV.out.rowG (hAC k hk); cases e; exact h)
      have CELW := hide (show ∀ k, k < 6 → wx.cell? ⟨b6, k, none⟩ = some (.slice (A2 k) (n k) (C2 k)) from fun k hk => by obtain ⟨b, e, -, h⟩ := row_cell IV.out.rowW (hAC2 k hk); cases e; exact h)
      have SLG := hide (show ∀ k, k < 6 → Sl wx (A k) (n k) (C k) (R k) from fun k hk => by
        have h := IV.out.itG (k := k) (by omega)
        rw [getG k (by omega), hnk] at h
        obtain ⟨a, c, e, s⟩ := row_sl h (hnk k).symm (by have := hn64 k; omega)
        cases e
        exact s)
      have SLW := hide (show ∀ k, k < 6 → Sl wx (A2 k) (n k) (C2 k) (R k) from fun k hk => by
        have h := IV.out.itW (k := k) (by omega)
        rw [getW k (by omega), hnk] at h
        obtain ⟨a, c, e, s⟩ := row_sl h (hnk k).symm (by have := hn64 k; omega)
        cases e
        exact s)
      have HR3 := hide (show ∀ j, R (j + 3) = R j from TT.out.2.2)
      have GG := hide (And.intro hAC getG)
      have GW := hide (And.intro hAC2 getW)
      have HLG := hide hlg
      have HLW := hide hlw
      have HN64 := hide hn64
      have KFIN := hide (fun w' ha hb => merged_h pa pb ma mb da db qa qb (R 0) w' ha hb Fa.out Fb.out M0.out)
      clear hn hnk hn64 hlg hlw hAC hAC2 getG getW TT M0 M1 M2 M3 M4 M5 HTL
      go_wp2_with fail
      go_loopw [9] (fun i ws => ∃ k : Nat, i = .int .i64 (k : Int) ∧ k ≤ 6 ∧ Below wx.heap.size wx ws) (fun i _ => 6 - (intOf i).toNat)
      case atStart => exact ⟨0, rfl, by omega, Below.refl _ _⟩
      case round =>
        obtain ⟨k, rfl, hk, hb⟩ := hrel
        have HBB := hide hb
        have hwl := hb.size
        clear hb
        by_cases hk6 : k < 6
        · have C5 := (HBB.out.cell (p := ⟨b5, k, none⟩) L5).trans (CELG.out k hk6)
          have C6 := (HBB.out.cell (p := ⟨b6, k, none⟩) L6).trans (CELW.out k hk6)
          have SG1 := hide ((SLG.out k hk6).below HBB.out)
          have SW1 := hide ((SLW.out k hk6).below HBB.out)
          have L5r : b5 < wr.heap.size := by omega
          have L6r : b6 < wr.heap.size := by omega
          have hnn := HN64.out k
          by_cases hk2 : 2 < k
          · obtain ⟨j, hj⟩ : ∃ j, k = j + 3 := ⟨k - 3, by omega⟩
            have C7 := (HBB.out.cell (p := ⟨b6, j, none⟩) L6).trans (CELW.out j (by omega))
            have SV1 := hide (show Sl wr (A2 j) (n j) (C2 j) (R k) by rw [hj, HR3.out j]; exact (SLW.out j (by omega)).below HBB.out)
            have ew : IntKind.i64.wrap ((k : Int) - 3) = (j : Int) := by rw [IntKind.wrap_i64]; omega
            have ew2 : (k : Int) - 3 = (j : Int) := by omega
            have hj6 : j < 6 := by omega
            have hj6i : (j : Int) < 6 := by omega
            have hj0i : (0 : Int) ≤ (j : Int) := by omega
            have ew5 : IntKind.i64.wrap (j : Int) = (j : Int) := by rw [IntKind.wrap_i64]; omega
            have hkg : decide ((2 : Int) < (k : Int)) = true := by simp; omega
            have HJ := hide hj
            clear hj
            go_upto_region 20 with fail
            refine wp_region_held_drew (S := fun wq => Below wr.heap.size wr wq) (by kernel_rfl) (Below.refl _ _).drew (fun hS => ?_)
            refine take_at 0 (some 54) (v := ?_) rfl rfl (by kernel_rfl) (by kernel_rfl) (by kernel_rfl) (fun _ _ _ h => h) ⟨by rfl, ?_⟩ hS ?_
            rotate_left
            · intro wq hSw; go_simp; try rfl
            simp only [Act.put, List.setIfInBounds_toArray, List.set_cons_zero, List.set_cons_succ]
            refine take_at 1 (some 55) (v := ?_) rfl rfl (by kernel_rfl) (by kernel_rfl) (by kernel_rfl) (fun _ _ _ h => h) ⟨by rfl, ?_⟩ hS ?_
            rotate_left
            · intro wq hSw; go_simp; try rfl
            simp only [Act.put, List.setIfInBounds_toArray, List.set_cons_zero, List.set_cons_succ]
            refine take_at 2 (some 56) (v := ?_) rfl rfl (by kernel_rfl) (by kernel_rfl) (by kernel_rfl) (fun _ _ _ h => h) ⟨by rfl, ?_⟩ hS ?_
            rotate_left
            · intro wq hSw; go_simp; try rfl
            simp only [Act.put, List.setIfInBounds_toArray, List.set_cons_zero, List.set_cons_succ]
            refine take_at 3 (some 57) (v := ?_) rfl rfl (by kernel_rfl) (by kernel_rfl) (by kernel_rfl) (fun _ _ _ h => h) ⟨by rfl, ?_⟩ hS ?_
            rotate_left
            · intro wq hSw; have q5 := (hSw.cell (p := ⟨b5, k, none⟩) L5r).trans C5; go_simp; try rfl
            simp only [Act.put, List.setIfInBounds_toArray, List.set_cons_zero, List.set_cons_succ]
            refine take_at 4 (some 58) (v := ?_) rfl rfl (by kernel_rfl) (by kernel_rfl) (by kernel_rfl) (fun _ _ _ h => h) ⟨by rfl, ?_⟩ hS ?_
            rotate_left
            · intro wq hSw; go_simp; try rfl
            simp only [Act.put, List.setIfInBounds_toArray, List.set_cons_zero, List.set_cons_succ]
            refine take_at 5 (some 59) (v := ?_) rfl rfl (by kernel_rfl) (by kernel_rfl) (by kernel_rfl) (fun _ _ _ h => h) ⟨by rfl, ?_⟩ hS ?_
            rotate_left
            · intro wq hSw; go_simp; try rfl
            simp only [Act.put, List.setIfInBounds_toArray, List.set_cons_zero, List.set_cons_succ]
            refine take_at 6 (some 60) (v := ?_) rfl rfl (by kernel_rfl) (by kernel_rfl) (by kernel_rfl) (fun _ _ _ h => h) ⟨by rfl, ?_⟩ hS ?_
            rotate_left
            · intro wq hSw; go_simp; try rfl
            simp only [Act.put, List.setIfInBounds_toArray, List.set_cons_zero, List.set_cons_succ]
            refine take_at 7 (some 61) (v := ?_) rfl rfl (by kernel_rfl) (by kernel_rfl) (by kernel_rfl) (fun _ _ _ h => h) ⟨by rfl, ?_⟩ hS ?_
            rotate_left
            · intro wq hSw; have q6 := (hSw.cell (p := ⟨b6, k, none⟩) L6r).trans C6; go_simp; try rfl
            simp only [Act.put, List.setIfInBounds_toArray, List.set_cons_zero, List.set_cons_succ]
            refine wpAnyH_ready (rs := [8]) (by kernel_rfl) (by simp) ?_
            refine AllReadyH.cons rfl (fun K hK => ?_) AllReadyH.nil
            go_simp
            go_wp2_with fail
            refine (same_h (A k) (A2 k) (n k) (n k) (C k) (C2 k) (R k) _ (SG1.out.below hS) (SW1.out.below hS)).mono ?_
            rintro e y1 ⟨rfl, hh⟩
            go_wp2_with fail
            refine hK.out _ _ (bnext hS hh (Nat.le_refl _)) (fun hS => ?_)
            clear hK K
            clear hh
            (try simp only [Act.put, List.setIfInBounds_toArray, List.set_cons_zero, List.set_cons_succ])
            refine take_at 9 (some 63) (v := ?_) rfl rfl (by kernel_rfl) (by kernel_rfl) (by kernel_rfl) (fun _ _ _ h => h) ⟨by rfl, ?_⟩ hS ?_
            rotate_left
            · intro wq hSw; go_simp; try rfl
            simp only [Act.put, List.setIfInBounds_toArray, List.set_cons_zero, List.set_cons_succ]
            refine take_at 10 (some 64) (v := ?_) rfl rfl (by kernel_rfl) (by kernel_rfl) (by kernel_rfl) (fun _ _ _ h => h) ⟨by rfl, ?_⟩ hS ?_
            rotate_left
            · intro wq hSw; go_simp; try rfl
            simp only [Act.put, List.setIfInBounds_toArray, List.set_cons_zero, List.set_cons_succ]
            refine take_at 11 (some 65) (v := ?_) rfl rfl (by kernel_rfl) (by kernel_rfl) (by kernel_rfl) (fun _ _ _ h => h) ⟨by rfl, ?_⟩ hS ?_
            rotate_left
            · intro wq hSw; go_simp; try rfl
            simp only [Act.put, List.setIfInBounds_toArray, List.set_cons_zero, List.set_cons_succ]
            refine take_at 12 (some 66) (v := ?_) rfl rfl (by kernel_rfl) (by kernel_rfl) (by kernel_rfl) (fun _ _ _ h => h) ⟨by rfl, ?_⟩ hS ?_
            rotate_left
            · intro wq hSw; go_simp; try rfl
            simp only [Act.put, List.setIfInBounds_toArray, List.set_cons_zero, List.set_cons_succ]
            refine take_at 13 (some 67) (v := ?_) rfl rfl (by kernel_rfl) (by kernel_rfl) (by kernel_rfl) (fun _ _ _ h => h) ⟨by rfl, ?_⟩ hS ?_
            rotate_left
            · intro wq hSw; go_simp; try rfl
            simp only [Act.put, List.setIfInBounds_toArray, List.set_cons_zero, List.set_cons_succ]
            refine take_at 14 (some 68) (v := ?_) rfl rfl (by kernel_rfl) (by kernel_rfl) (by kernel_rfl) (fun _ _ _ h => h) ⟨by rfl, ?_⟩ hS ?_
            rotate_left
            · intro wq hSw; go_simp; try rfl
            simp only [Act.put, List.setIfInBounds_toArray, List.set_cons_zero, List.set_cons_succ]
            refine take_at 15 (some 69) (v := ?_) rfl rfl (by kernel_rfl) (by kernel_rfl) (by kernel_rfl) (fun _ _ _ h => h) ⟨by rfl, ?_⟩ hS ?_
            rotate_left
            · intro wq hSw; go_simp; try rfl
            simp only [Act.put, List.setIfInBounds_toArray, List.set_cons_zero, List.set_cons_succ]
            refine take_at 16 (some 70) (v := ?_) rfl rfl (by kernel_rfl) (by kernel_rfl) (by kernel_rfl) (fun _ _ _ h => h) ⟨by rfl, ?_⟩ hS ?_
            rotate_left
            · intro wq hSw; go_simp; try rfl
            simp only [Act.put, List.setIfInBounds_toArray, List.set_cons_zero, List.set_cons_succ]
            refine take_at 17 (some 71) (v := ?_) rfl rfl (by kernel_rfl) (by kernel_rfl) (by kernel_rfl) (fun _ _ _ h => h) ⟨by rfl, ?_⟩ hS ?_
            rotate_left
            · intro wq hSw; have q6 := (hSw.cell (p := ⟨b6, k, none⟩) L6r).trans C6; go_simp; try rfl
            simp only [Act.put, List.setIfInBounds_toArray, List.set_cons_zero, List.set_cons_succ]
            refine take_at 18 (some 72) (v := ?_) rfl rfl (by kernel_rfl) (by kernel_rfl) (by kernel_rfl) (fun _ _ _ h => h) ⟨by rfl, ?_⟩ hS ?_
            rotate_left
            · intro wq hSw; go_simp; try rfl
            simp only [Act.put, List.setIfInBounds_toArray, List.set_cons_zero, List.set_cons_succ]
            refine take_at 19 (some 73) (v := ?_) rfl rfl (by kernel_rfl) (by kernel_rfl) (by kernel_rfl) (fun _ _ _ h => h) ⟨by rfl, ?_⟩ hS ?_
            rotate_left
            · intro wq hSw; go_simp; try rfl
            simp only [Act.put, List.setIfInBounds_toArray, List.set_cons_zero, List.set_cons_succ]
            refine take_at 20 (some 74) (v := ?_) rfl rfl (by kernel_rfl) (by kernel_rfl) (by kernel_rfl) (fun _ _ _ h => h) ⟨by rfl, ?_⟩ hS ?_
            rotate_left
            · intro wq hSw; go_simp; try rfl
            simp only [Act.put, List.setIfInBounds_toArray, List.set_cons_zero, List.set_cons_succ]
            refine take_at 21 (some 75) (v := ?_) rfl rfl (by kernel_rfl) (by kernel_rfl) (by kernel_rfl) (fun _ _ _ h => h) ⟨by rfl, ?_⟩ hS ?_
            rotate_left
            · intro wq hSw; go_simp; try rfl
            simp only [Act.put, List.setIfInBounds_toArray, List.set_cons_zero, List.set_cons_succ]
            refine take_at 22 (some 76) (v := ?_) rfl rfl (by kernel_rfl) (by kernel_rfl) (by kernel_rfl) (fun _ _ _ h => h) ⟨by rfl, ?_⟩ hS ?_
            rotate_left
            · intro wq hSw; have q7 := (hSw.cell (p := ⟨b6, j, none⟩) L6r).trans C7; go_simp; try rfl
            simp only [Act.put, List.setIfInBounds_toArray, List.set_cons_zero, List.set_cons_succ]
            refine wpAnyH_ready (rs := [23]) (by kernel_rfl) (by simp) ?_
            refine AllReadyH.cons rfl (fun K hK => ?_) AllReadyH.nil
            go_simp
            go_wp2_with fail
            refine (same_h (A2 k) (A2 j) (n k) (n j) (C2 k) (C2 j) (R k) _ (SW1.out.below hS) (SV1.out.below hS)).mono ?_
            rintro e y2 ⟨rfl, hh⟩
            go_wp2_with fail
            refine hK.out _ _ (bnext hS hh (Nat.le_refl _)) (fun hS => ?_)
            clear hK K
            clear hh
            (try simp only [Act.put, List.setIfInBounds_toArray, List.set_cons_zero, List.set_cons_succ])
            refine take_at 24 (some 78) (v := ?_) rfl rfl (by kernel_rfl) (by kernel_rfl) (by kernel_rfl) (fun _ _ _ h => h) ⟨by rfl, ?_⟩ hS ?_
            rotate_left
            · intro wq hSw; go_simp; try rfl
            simp only [Act.put, List.setIfInBounds_toArray, List.set_cons_zero, List.set_cons_succ]
            refine take_at 25 (some 79) (v := ?_) rfl rfl (by kernel_rfl) (by kernel_rfl) (by kernel_rfl) (fun _ _ _ h => h) ⟨by rfl, ?_⟩ hS ?_
            rotate_left
            · intro wq hSw; go_simp; try rfl
            simp only [Act.put, List.setIfInBounds_toArray, List.set_cons_zero, List.set_cons_succ]
            refine take_at 26 (some 80) (v := ?_) rfl rfl (by kernel_rfl) (by kernel_rfl) (by kernel_rfl) (fun _ _ _ h => h) ⟨by rfl, ?_⟩ hS ?_
            rotate_left
            · intro wq hSw; go_simp; try rfl
            simp only [Act.put, List.setIfInBounds_toArray, List.set_cons_zero, List.set_cons_succ]
            have D9 := hide hS
            clear hS
            refine wpAnyH_done (by kernel_rfl) ?_ _
            go_wp2_with fail
            go_roundw
            case rel => first | exact ⟨k + 1, by go_num, by omega, bnext HBB.out D9.out (Nat.le_refl _)⟩ | ((repeat apply Exists.intro); exact ⟨⟨k + 1, by go_num, by omega, bnext HBB.out D9.out (Nat.le_refl _)⟩, rfl⟩)
            case measure => simp [intOf]; omega
          · have hkg : decide ((2 : Int) < (k : Int)) = false := by simp; omega
            go_upto_region 20 with fail
            refine wp_region_held_drew (S := fun wq => Below wr.heap.size wr wq) (by kernel_rfl) (Below.refl _ _).drew (fun hS => ?_)
            refine take_at 0 (some 54) (v := ?_) rfl rfl (by kernel_rfl) (by kernel_rfl) (by kernel_rfl) (fun _ _ _ h => h) ⟨by rfl, ?_⟩ hS ?_
            rotate_left
            · intro wq hSw; go_simp; try rfl
            simp only [Act.put, List.setIfInBounds_toArray, List.set_cons_zero, List.set_cons_succ]
            refine take_at 1 (some 55) (v := ?_) rfl rfl (by kernel_rfl) (by kernel_rfl) (by kernel_rfl) (fun _ _ _ h => h) ⟨by rfl, ?_⟩ hS ?_
            rotate_left
            · intro wq hSw; go_simp; try rfl
            simp only [Act.put, List.setIfInBounds_toArray, List.set_cons_zero, List.set_cons_succ]
            refine take_at 2 (some 56) (v := ?_) rfl rfl (by kernel_rfl) (by kernel_rfl) (by kernel_rfl) (fun _ _ _ h => h) ⟨by rfl, ?_⟩ hS ?_
            rotate_left
            · intro wq hSw; go_simp; try rfl
            simp only [Act.put, List.setIfInBounds_toArray, List.set_cons_zero, List.set_cons_succ]
            refine take_at 3 (some 57) (v := ?_) rfl rfl (by kernel_rfl) (by kernel_rfl) (by kernel_rfl) (fun _ _ _ h => h) ⟨by rfl, ?_⟩ hS ?_
            rotate_left
            · intro wq hSw; have q5 := (hSw.cell (p := ⟨b5, k, none⟩) L5r).trans C5; go_simp; try rfl
            simp only [Act.put, List.setIfInBounds_toArray, List.set_cons_zero, List.set_cons_succ]
            refine take_at 4 (some 58) (v := ?_) rfl rfl (by kernel_rfl) (by kernel_rfl) (by kernel_rfl) (fun _ _ _ h => h) ⟨by rfl, ?_⟩ hS ?_
            rotate_left
            · intro wq hSw; go_simp; try rfl
            simp only [Act.put, List.setIfInBounds_toArray, List.set_cons_zero, List.set_cons_succ]
            refine take_at 5 (some 59) (v := ?_) rfl rfl (by kernel_rfl) (by kernel_rfl) (by kernel_rfl) (fun _ _ _ h => h) ⟨by rfl, ?_⟩ hS ?_
            rotate_left
            · intro wq hSw; go_simp; try rfl
            simp only [Act.put, List.setIfInBounds_toArray, List.set_cons_zero, List.set_cons_succ]
            refine take_at 6 (some 60) (v := ?_) rfl rfl (by kernel_rfl) (by kernel_rfl) (by kernel_rfl) (fun _ _ _ h => h) ⟨by rfl, ?_⟩ hS ?_
            rotate_left
            · intro wq hSw; go_simp; try rfl
            simp only [Act.put, List.setIfInBounds_toArray, List.set_cons_zero, List.set_cons_succ]
            refine take_at 7 (some 61) (v := ?_) rfl rfl (by kernel_rfl) (by kernel_rfl) (by kernel_rfl) (fun _ _ _ h => h) ⟨by rfl, ?_⟩ hS ?_
            rotate_left
            · intro wq hSw; have q6 := (hSw.cell (p := ⟨b6, k, none⟩) L6r).trans C6; go_simp; try rfl
            simp only [Act.put, List.setIfInBounds_toArray, List.set_cons_zero, List.set_cons_succ]
            refine wpAnyH_ready (rs := [8]) (by kernel_rfl) (by simp) ?_
            refine AllReadyH.cons rfl (fun K hK => ?_) AllReadyH.nil
            go_simp
            go_wp2_with fail
            refine (same_h (A k) (A2 k) (n k) (n k) (C k) (C2 k) (R k) _ (SG1.out.below hS) (SW1.out.below hS)).mono ?_
            rintro e y1 ⟨rfl, hh⟩
            go_wp2_with fail
            refine hK.out _ _ (bnext hS hh (Nat.le_refl _)) (fun hS => ?_)
            clear hK K
            clear hh
            (try simp only [Act.put, List.setIfInBounds_toArray, List.set_cons_zero, List.set_cons_succ])
            refine take_at 9 (some 63) (v := ?_) rfl rfl (by kernel_rfl) (by kernel_rfl) (by kernel_rfl) (fun _ _ _ h => h) ⟨by rfl, ?_⟩ hS ?_
            rotate_left
            · intro wq hSw; go_simp; try rfl
            simp only [Act.put, List.setIfInBounds_toArray, List.set_cons_zero, List.set_cons_succ]
            refine take_at 10 (some 64) (v := ?_) rfl rfl (by kernel_rfl) (by kernel_rfl) (by kernel_rfl) (fun _ _ _ h => h) ⟨by rfl, ?_⟩ hS ?_
            rotate_left
            · intro wq hSw; go_simp; try rfl
            simp only [Act.put, List.setIfInBounds_toArray, List.set_cons_zero, List.set_cons_succ]
            refine take_at 11 (some 65) (v := ?_) rfl rfl (by kernel_rfl) (by kernel_rfl) (by kernel_rfl) (fun _ _ _ h => h) ⟨by rfl, ?_⟩ hS ?_
            rotate_left
            · intro wq hSw; go_simp; try rfl
            simp only [Act.put, List.setIfInBounds_toArray, List.set_cons_zero, List.set_cons_succ]
            refine take_at 12 (some 66) (v := ?_) rfl rfl (by kernel_rfl) (by kernel_rfl) (by kernel_rfl) (fun _ _ _ h => h) ⟨by rfl, ?_⟩ hS ?_
            rotate_left
            · intro wq hSw; go_simp; try rfl
            simp only [Act.put, List.setIfInBounds_toArray, List.set_cons_zero, List.set_cons_succ]
            refine take_at 13 (some 67) (v := ?_) rfl rfl (by kernel_rfl) (by kernel_rfl) (by kernel_rfl) (fun _ _ _ h => h) ⟨by rfl, ?_⟩ hS ?_
            rotate_left
            · intro wq hSw; go_simp; try rfl
            simp only [Act.put, List.setIfInBounds_toArray, List.set_cons_zero, List.set_cons_succ]
            refine pass_at 14 (some 68) rfl rfl (by kernel_rfl) (by kernel_rfl) (by kernel_rfl) (fun _ _ _ h => h) (by rfl) hS ?_
            simp only [Act.put, List.setIfInBounds_toArray, List.set_cons_zero, List.set_cons_succ]
            refine pass_at 15 (some 69) rfl rfl (by kernel_rfl) (by kernel_rfl) (by kernel_rfl) (fun _ _ _ h => h) (by rfl) hS ?_
            simp only [Act.put, List.setIfInBounds_toArray, List.set_cons_zero, List.set_cons_succ]
            refine pass_at 16 (some 70) rfl rfl (by kernel_rfl) (by kernel_rfl) (by kernel_rfl) (fun _ _ _ h => h) (by rfl) hS ?_
            simp only [Act.put, List.setIfInBounds_toArray, List.set_cons_zero, List.set_cons_succ]
            refine pass_at 17 (some 71) rfl rfl (by kernel_rfl) (by kernel_rfl) (by kernel_rfl) (fun _ _ _ h => h) (by rfl) hS ?_
            simp only [Act.put, List.setIfInBounds_toArray, List.set_cons_zero, List.set_cons_succ]
            refine pass_at 18 (some 72) rfl rfl (by kernel_rfl) (by kernel_rfl) (by kernel_rfl) (fun _ _ _ h => h) (by rfl) hS ?_
            simp only [Act.put, List.setIfInBounds_toArray, List.set_cons_zero, List.set_cons_succ]
            refine pass_at 19 (some 73) rfl rfl (by kernel_rfl) (by kernel_rfl) (by kernel_rfl) (fun _ _ _ h => h) (by rfl) hS ?_
            simp only [Act.put, List.setIfInBounds_toArray, List.set_cons_zero, List.set_cons_succ]
            refine pass_at 20 (some 74) rfl rfl (by kernel_rfl) (by kernel_rfl) (by kernel_rfl) (fun _ _ _ h => h) (by rfl) hS ?_
            simp only [Act.put, List.setIfInBounds_toArray, List.set_cons_zero, List.set_cons_succ]
            refine pass_at 21 (some 75) rfl rfl (by kernel_rfl) (by kernel_rfl) (by kernel_rfl) (fun _ _ _ h => h) (by rfl) hS ?_
            simp only [Act.put, List.setIfInBounds_toArray, List.set_cons_zero, List.set_cons_succ]
            refine pass_at 22 (some 76) rfl rfl (by kernel_rfl) (by kernel_rfl) (by kernel_rfl) (fun _ _ _ h => h) (by rfl) hS ?_
            simp only [Act.put, List.setIfInBounds_toArray, List.set_cons_zero, List.set_cons_succ]
            refine pass_at 23 (some 77) rfl rfl (by kernel_rfl) (by kernel_rfl) (by kernel_rfl) (fun _ _ _ h => h) (by rfl) hS ?_
            simp only [Act.put, List.setIfInBounds_toArray, List.set_cons_zero, List.set_cons_succ]
            refine pass_at 24 (some 78) rfl rfl (by kernel_rfl) (by kernel_rfl) (by kernel_rfl) (fun _ _ _ h => h) (by rfl) hS ?_
            simp only [Act.put, List.setIfInBounds_toArray, List.set_cons_zero, List.set_cons_succ]
            refine take_at 25 (some 79) (v := ?_) rfl rfl (by kernel_rfl) (by kernel_rfl) (by kernel_rfl) (fun _ _ _ h => h) ⟨by rfl, ?_⟩ hS ?_
            rotate_left
            · intro wq hSw; go_simp; try rfl
            simp only [Act.put, List.setIfInBounds_toArray, List.set_cons_zero, List.set_cons_succ]
            refine take_at 26 (some 80) (v := ?_) rfl rfl (by kernel_rfl) (by kernel_rfl) (by kernel_rfl) (fun _ _ _ h => h) ⟨by rfl, ?_⟩ hS ?_
            rotate_left
            · intro wq hSw; go_simp; try rfl
            simp only [Act.put, List.setIfInBounds_toArray, List.set_cons_zero, List.set_cons_succ]
            have D9 := hide hS
            clear hS
            refine wpAnyH_done (by kernel_rfl) ?_ _
            go_wp2_with fail
            go_roundw
            case rel => first | exact ⟨k + 1, by go_num, by omega, bnext HBB.out D9.out (Nat.le_refl _)⟩ | ((repeat apply Exists.intro); exact ⟨⟨k + 1, by go_num, by omega, bnext HBB.out D9.out (Nat.le_refl _)⟩, rfl⟩)
            case measure => simp [intOf]; omega
        · obtain rfl : k = 6 := by omega
          obtain ⟨wy, hwy⟩ : ∃ x, x = wr := ⟨_, rfl⟩
          subst hwy
          have IY := hide (IV.out.below HBB.out)
          have BY := hide (bnext HB.out HBB.out (Nat.le_refl _))
          clear IV HBB HB CELG CELW SLG SLW L5 L6 hwl
          go_wp2_with fail
          go_loopw [10] (fun i ws => ∃ (k : Nat) (lab : Nat → Nat) (I : Nat → Option It) (X : Nat → List Dr), i = .int .i64 (k : Int) ∧ k ≤ 6 ∧ Inv ws w3.heap.size lab I (.slice (some ⟨b5, 0, none⟩) 6 c5) (.slice (some ⟨b6, 0, none⟩) 6 c6) vG vW R X 6 ∧ (∀ j, j < k → X j = marks j (n j)) ∧ Below w3.heap.size w3 ws) (fun i _ => 6 - (intOf i).toNat)
          case atStart => exact ⟨0, _, _, R, rfl, by omega, IY.out, fun j hj => (by omega), BY.out⟩
          case round =>
            obtain ⟨k, lab3, I3, X, rfl, hk6, hin, hX, hbl⟩ := hrel
            have IZ := hide hin
            have HX := hide hX
            have BZ := hide hbl
            clear hin hX hbl IY BY
            by_cases hkk : k < 6
            · have hnn := HN64.out k
              go_wp2_with fail
              go_loopw [11] (fun i ws => ∃ (q : Nat) (lab : Nat → Nat) (I : Nat → Option It) (X : Nat → List Dr), i = .int .i64 (q : Int) ∧ q ≤ n k ∧ Inv ws w3.heap.size lab I (.slice (some ⟨b5, 0, none⟩) 6 c5) (.slice (some ⟨b6, 0, none⟩) 6 c6) vG vW R X 6 ∧ (∀ j, j < k → X j = marks j (n j)) ∧ (∀ z, z < q → (X k)[z]? = some (mrk k z)) ∧ Below w3.heap.size w3 ws) (fun i _ => n k - (intOf i).toNat)
              case atStart => exact ⟨0, _, _, X, rfl, Nat.zero_le _, IZ.out, HX.out, fun z hz => (by omega), BZ.out⟩
              case round =>
                obtain ⟨q, lab4, I4, X4, rfl, hq, hin, hX4, hP, hbl⟩ := hrel
                have IQ := hide hin
                have HX4 := hide hX4
                have HP := hide hP
                have BQ := hide hbl
                obtain ⟨b, e, -, C5⟩ := row_cell hin.rowG (GG.out.1 k hkk)
                cases e
                have hkl : k < vG.length := by rw [HLG.out]; exact hkk
                have hit := hin.itG hkl
                rw [GG.out.2 k hkl, HNK.out k] at hit
                have HIT := hide hit
                have ewk := wrapK k (by omega)
                have ewq := wrapN q (by omega)
                clear hin hX4 hP hbl hit IZ HX BZ
                by_cases hqn : q < n k
                · obtain ⟨g, cap, eg, hcap, -, hgB, hgw⟩ := grow_form HIT.out (by omega)
                  have eA : A k = some ⟨g, 0, none⟩ := by injection eg
                  have hlx : (X4 k).length = n k := by rw [IQ.out.lx k hkk, HNK.out]
                  obtain ⟨aa, cc, ee, li, -⟩ := GRow.lies HIT.out
                  cases ee
                  obtain ⟨b, off, e, -, x0, x1⟩ := li.dr (k := q) (by omega)
                  clear li
                  rw [eA] at e
                  cases e
                  rw [Nat.zero_add] at x0 x1
                  have f0 : wr.frozen? ⟨g, q * 2, none⟩ = false := by have := HIT.out; rw [eA] at this; exact World.ownsRow.frozenAt this _
                  have f1 : wr.frozen? ⟨g, q * 2 + 1, none⟩ = false := by have := HIT.out; rw [eA] at this; exact World.ownsRow.frozenAt this _
                  rw [eA] at C5
                  obtain ⟨dd1, dd2, y0, y1⟩ : ∃ d1 d2, wr.cell? ⟨g, q * 2, none⟩ = some (.int .i64 d1) ∧ wr.cell? ⟨g, q * 2 + 1, none⟩ = some (.int .i64 d2) := ⟨_, _, x0, x1⟩
                  clear x0 x1
                  have EA := hide eA
                  have HLX := hide hlx
                  clear eg eA hlx
                  go_wp2_with fail
                  go_roundw
                  case rel =>
                    obtain ⟨lab5, I5, in5⟩ := IQ.out.store (k := k) (i := q) (by rw [HLG.out]; exact hkk) (by rw [HNK.out]; exact hqn) (mrk k q) (g := g) (c := C k) (by rw [GG.out.2 k (by rw [HLG.out]; exact hkk), EA.out, HNK.out])
                    have kk : Keep (fun z => z = g) wr ((wr.setCell ⟨g, q * 2, none⟩ (.int .i64 (mrk k q).1)).setCell ⟨g, q * 2 + 1, none⟩ (.int .i64 (mrk k q).2)) := Keep.setCell (Keep.setCell (S := fun z => z = g) (Keep.refl _ _) (fun _ => rfl) _) (fun _ => rfl) _
                    have F1 : ∀ j, j < k → (if j = k then (X4 k).set q (mrk k q) else X4 j) = marks j (n j) := fun j hj => by rw [if_neg (by omega)]; exact HX4.out j hj
                    have F2 : ∀ z, z < q + 1 → (if k = k then (X4 k).set q (mrk k q) else X4 k)[z]? = some (mrk k z) := fun z hz => by
                      rw [if_pos rfl, List.getElem?_set]
                      by_cases r : q = z
                      · subst r
                        rw [if_pos rfl, if_pos (by rw [HLX.out]; exact hqn)]
                      · rw [if_neg r]; exact HP.out z (by omega)
                    have F3 := BQ.out.trans (kk.below BQ.out.size (fun z hz r => by omega))
                    first | exact ⟨q + 1, lab5, I5, _, by go_num, by omega, in5, F1, F2, F3⟩ | ((repeat apply Exists.intro); exact ⟨⟨q + 1, lab5, I5, _, by go_num, by omega, in5, F1, F2, F3⟩, rfl⟩)
                  case measure => simp [intOf]; omega
                · obtain rfl : q = n k := by omega
                  have HM := hide (show X4 k = marks k (n k) from marks_of (by rw [IQ.out.lx k hkk, HNK.out]) HP.out)
                  go_wp2_with fail
                  go_roundw
                  case rel =>
                    have F1 : ∀ j, j < k + 1 → X4 j = marks j (n j) := fun j hj => by
                      by_cases r : j = k
                      · rw [r]; exact HM.out
                      · exact HX4.out j (by omega)
                    first | exact ⟨k + 1, lab4, I4, X4, by go_num, by omega, IQ.out, F1, BQ.out⟩ | ((repeat apply Exists.intro); exact ⟨⟨k + 1, lab4, I4, X4, by go_num, by omega, IQ.out, F1, BQ.out⟩, rfl⟩)
                  case measure => simp [intOf]; omega
            · obtain rfl : k = 6 := by omega
              obtain ⟨lab5, I5, i5⟩ := Inv5.start IZ.out HX.out HNK.out GG.out.2 (by rw [HLW.out]; omega)
              obtain ⟨it0, hit0⟩ : ∃ it : It, it = ⟨28, 2, vW[0]'(by rw [HLW.out]; omega), n 0, drs (R 0)⟩ := ⟨_, rfl⟩
              rw [← hit0] at i5
              have IT0 := hide hit0
              have J5 := hide i5
              clear i5 hit0 IZ HX
              go_wp2_with fail
              go_loopw [12, 13] (fun u i ws => ∃ (k : Nat) (lab : Nat → Nat) (I : Nat → Option It) (vM : List Value), i = .int .i64 (k : Int) ∧ k ≤ 6 ∧ Inv5 ws w3.heap.size lab I (.slice (some ⟨b5, 0, none⟩) 6 c5) (.slice (some ⟨b6, 0, none⟩) 6 c6) u vG vW vM A C n it0 k ∧ Below w3.heap.size w3 ws) (fun _ i _ => 6 - (intOf i).toNat)
              case atStart => exact ⟨0, lab5, I5, [], rfl, by omega, J5.out, BZ.out⟩
              case round =>
                obtain ⟨k, lab6, I6, vM, rfl, hk6, hin, hbl⟩ := hrel
                obtain ⟨a7, c7, e7, -⟩ := GRow.lies hin.rowM
                subst e7
                have J6 := hide hin
                have B6 := hide hbl
                clear hin hbl J5 BZ
                by_cases hkk : k < 6
                · have hnn := HN64.out k
                  obtain ⟨b, e, -, C5⟩ := row_cell J6.out.rowG (GG.out.1 k hkk)
                  cases e
                  have ewk := wrapK k (by omega)
                  have ewn := wrapN (n k) (by omega)
                  have CE := hide C5
                  clear C5
                  go_upto_region 33 with fail
                  refine wp_region_held_drew (S := fun wq => wq.cell? ⟨b5, k, none⟩ = some (.slice (A k) (n k) (C k))) (by kernel_rfl) CE.out (fun hS => ?_)
                  refine take_at 0 (some 113) (v := ?_) rfl rfl (by kernel_rfl) (by kernel_rfl) (by kernel_rfl) (fun _ _ _ h => h) ⟨by rfl, ?_⟩ hS ?_
                  rotate_left
                  · intro wq hSw; go_simp; try rfl
                  simp only [Act.put, List.setIfInBounds_toArray, List.set_cons_zero, List.set_cons_succ]
                  refine take_at 1 (some 114) (v := ?_) rfl rfl (by kernel_rfl) (by kernel_rfl) (by kernel_rfl) (fun _ _ _ h => h) ⟨by rfl, ?_⟩ hS ?_
                  rotate_left
                  · intro wq hSw; go_simp; try rfl
                  simp only [Act.put, List.setIfInBounds_toArray, List.set_cons_zero, List.set_cons_succ]
                  refine take_at 2 (some 115) (v := ?_) rfl rfl (by kernel_rfl) (by kernel_rfl) (by kernel_rfl) (fun _ _ _ h => h) ⟨by rfl, ?_⟩ hS ?_
                  rotate_left
                  · intro wq hSw; go_simp; try rfl
                  simp only [Act.put, List.setIfInBounds_toArray, List.set_cons_zero, List.set_cons_succ]
                  refine take_at 3 (some 116) (v := ?_) rfl rfl (by kernel_rfl) (by kernel_rfl) (by kernel_rfl) (fun _ _ _ h => h) ⟨by rfl, ?_⟩ hS ?_
                  rotate_left
                  · intro wq hSw; go_simp; try rfl
                  simp only [Act.put, List.setIfInBounds_toArray, List.set_cons_zero, List.set_cons_succ]
                  refine take_at 4 (some 117) (v := ?_) rfl rfl (by kernel_rfl) (by kernel_rfl) (by kernel_rfl) (fun _ _ _ h => h) ⟨by rfl, ?_⟩ hS ?_
                  rotate_left
                  · intro wq hSw; go_simp; try rfl
                  simp only [Act.put, List.setIfInBounds_toArray, List.set_cons_zero, List.set_cons_succ]
                  refine take_at 5 (some 118) (v := ?_) rfl rfl (by kernel_rfl) (by kernel_rfl) (by kernel_rfl) (fun _ _ _ h => h) ⟨by rfl, ?_⟩ hS ?_
                  rotate_left
                  · intro wq hSw; go_simp; try rfl
                  simp only [Act.put, List.setIfInBounds_toArray, List.set_cons_zero, List.set_cons_succ]
                  refine take_at 6 (some 119) (v := ?_) rfl rfl (by kernel_rfl) (by kernel_rfl) (by kernel_rfl) (fun _ _ _ h => h) ⟨by rfl, ?_⟩ hS ?_
                  rotate_left
                  · intro wq hSw; go_simp; try rfl
                  simp only [Act.put, List.setIfInBounds_toArray, List.set_cons_zero, List.set_cons_succ]
                  refine take_at 7 (some 120) (v := ?_) rfl rfl (by kernel_rfl) (by kernel_rfl) (by kernel_rfl) (fun _ _ _ h => h) ⟨by rfl, ?_⟩ hS ?_
                  rotate_left
                  · intro wq hSw; go_simp; try rfl
                  simp only [Act.put, List.setIfInBounds_toArray, List.set_cons_zero, List.set_cons_succ]
                  refine take_at 8 (some 121) (v := ?_) rfl rfl (by kernel_rfl) (by kernel_rfl) (by kernel_rfl) (fun _ _ _ h => h) ⟨by rfl, ?_⟩ hS ?_
                  rotate_left
                  · intro wq hSw; go_simp; try rfl
                  simp only [Act.put, List.setIfInBounds_toArray, List.set_cons_zero, List.set_cons_succ]
                  refine take_at 9 (some 122) (v := ?_) rfl rfl (by kernel_rfl) (by kernel_rfl) (by kernel_rfl) (fun _ _ _ h => h) ⟨by rfl, ?_⟩ hS ?_
                  rotate_left
                  · intro wq hSw; go_simp; try rfl
                  simp only [Act.put, List.setIfInBounds_toArray, List.set_cons_zero, List.set_cons_succ]
                  refine take_at 10 (some 123) (v := ?_) rfl rfl (by kernel_rfl) (by kernel_rfl) (by kernel_rfl) (fun _ _ _ h => h) ⟨by rfl, ?_⟩ hS ?_
                  rotate_left
                  · intro wq hSw; go_simp; try rfl
                  simp only [Act.put, List.setIfInBounds_toArray, List.set_cons_zero, List.set_cons_succ]
                  refine take_at 11 (some 124) (v := ?_) rfl rfl (by kernel_rfl) (by kernel_rfl) (by kernel_rfl) (fun _ _ _ h => h) ⟨by rfl, ?_⟩ hS ?_
                  rotate_left
                  · intro wq hSw; go_simp; try rfl
                  simp only [Act.put, List.setIfInBounds_toArray, List.set_cons_zero, List.set_cons_succ]
                  refine take_at 12 (some 125) (v := ?_) rfl rfl (by kernel_rfl) (by kernel_rfl) (by kernel_rfl) (fun _ _ _ h => h) ⟨by rfl, ?_⟩ hS ?_
                  rotate_left
                  · intro wq hSw; go_simp; try rfl
                  simp only [Act.put, List.setIfInBounds_toArray, List.set_cons_zero, List.set_cons_succ]
                  refine take_at 13 (some 126) (v := ?_) rfl rfl (by kernel_rfl) (by kernel_rfl) (by kernel_rfl) (fun _ _ _ h => h) ⟨by rfl, ?_⟩ hS ?_
                  rotate_left
                  · intro wq hSw; go_simp; try rfl
                  simp only [Act.put, List.setIfInBounds_toArray, List.set_cons_zero, List.set_cons_succ]
                  have J7 := hide (J6.out.below (show Below wr.heap.size wr wr.drew from (Below.refl _ _).drew))
                  have B7 := hide B6.out.drew
                  clear hS J6 B6 CE
                  generalize wr.drew = x0 at *
                  have J8 := hide (J7.out.below (alloc_below x0 (.cells #[.int .i64 (-1 - (k : Int)), .int .i64 (-((n k : Nat) : Int))] 28)))
                  have B8 := hide (B7.out.alloc B7.out.size (.cells #[.int .i64 (-1 - (k : Int)), .int .i64 (-((n k : Nat) : Int))] 28))
                  have C8 := hide (show (x0.alloc (.cells #[.int .i64 (-1 - (k : Int)), .int .i64 (-((n k : Nat) : Int))] 28)).cell? ⟨b5, k, none⟩ = some (.slice (A k) (n k) (C k)) by obtain ⟨b, e, -, h⟩ := row_cell J8.out.rowG (GG.out.1 k hkk); cases e; exact h)
                  have LM := hide (lies_new2 x0 (mrk k (n k)) 28)
                  clear J7 B7
                  refine wpAnyH_ready (rs := [14]) (by kernel_rfl) (by simp) ?_
                  refine AllReadyH.cons rfl (fun K hK => ?_) AllReadyH.nil
                  go_simp
                  go_wp2_with fail
                  refine hK.out _ _ C8.out (fun hS => ?_)
                  clear hK K hS
                  (try simp only [Act.put, List.setIfInBounds_toArray, List.set_cons_zero, List.set_cons_succ])
                  obtain ⟨v, x2, hrun, q1, q2, q3, q4⟩ := run_moreR Try.underlying23 info28 rfl (by decide) (by decide) 23 _ w3.heap.size _ (n k) (drs (marks k (n k))) (J8.out.cur hkk) ⟨x0.heap.size, 0, none⟩ (drs [mrk k (n k)]) rfl LM.out (drs_one _) (by omega) B8.out.size
                  have HRR := hide hrun
                  have V1 := hide (show GRow x2 w3.heap.size 28 2 v (n k + 1) (drs (marks k (n k + 1))) by rw [marks_succ, drs_append]; exact q1)
                  have K2 := hide (grown_keep q2)
                  have O2 := hide (show v.ownBlock = (Value.slice (A k) (n k) (C k)).ownBlock ∨ ∃ z, v.ownBlock = some z ∧ _ ≤ z from q3.imp id (fun q => ⟨_, q, Nat.le_refl _⟩))
                  have LT := hide (q4 (A k) (C k) rfl)
                  obtain ⟨gv, cpv, ev, -, -, -, -⟩ := grow_form V1.out (by omega)
                  subst ev
                  have C9 := hide (show x2.cell? ⟨b5, k, none⟩ = some (.slice (A k) (n k) (C k)) by obtain ⟨b, e, -, h⟩ := row_cell (J8.out.gKeep hkk K2.out) (GG.out.1 k hkk); cases e; exact h)
                  have B9 := hide (B8.out.trans (K2.out.below B8.out.size (fun z hz q => by have := (World.ownsRow.lt (J8.out.cur hkk) z q).1; omega)))
                  clear hrun q1 q2 q3 q4
                  refine wpAnyH_ready (rs := [15]) (by kernel_rfl) (by simp) ?_
                  refine AllReadyH.cons rfl (fun K hK => ?_) AllReadyH.nil
                  refine wp_run 128 (.tmp 117) (.tmp 127) rfl rfl rfl rfl rfl HRR.out ?_
                  refine hK.out _ _ C9.out (fun hS => ?_)
                  clear hK K hS HRR
                  (try simp only [Act.put, List.setIfInBounds_toArray, List.set_cons_zero, List.set_cons_succ])
                  have C10 := hide (show (x2.alloc (.cells #[.slice (some ⟨gv, 0, none⟩) (n k + 1) cpv] 23)).cell? ⟨b5, k, none⟩ = some (.slice (A k) (n k) (C k)) by obtain ⟨b, e, -, h⟩ := row_cell (GRow.below (J8.out.gKeep hkk K2.out) (alloc_below _ _)) (GG.out.1 k hkk); cases e; exact h)
                  have B10 := hide (B9.out.alloc B9.out.size (.cells #[.slice (some ⟨gv, 0, none⟩) (n k + 1) cpv] 23))
                  refine wpAnyH_ready (rs := [16]) (by kernel_rfl) (by simp) ?_
                  refine AllReadyH.cons rfl (fun K hK => ?_) AllReadyH.nil
                  go_simp
                  go_wp2_with fail
                  refine hK.out _ _ C10.out (fun hS => ?_)
                  clear hK K hS
                  (try simp only [Act.put, List.setIfInBounds_toArray, List.set_cons_zero, List.set_cons_succ])
                  obtain ⟨vm, x4, hrun, q1, q2, q3⟩ := run_pushR Try.underlying34 info23 info23z (by decide) (by decide) 34 _ w3.heap.size _ k vM (GRow.below (J8.out.mKeep hkk K2.out) (alloc_below x2 (.cells #[.slice (some ⟨gv, 0, none⟩) (n k + 1) cpv] 23))) ⟨x2.heap.size, 0, none⟩ 1 1 [.slice (some ⟨gv, 0, none⟩) (n k + 1) cpv] rfl (lies_one _ _ _) (by simp [Value.oneCell']) (by omega) B10.out.size
                  have HRR := hide hrun
                  obtain ⟨lab8, I8, j8⟩ := J8.out.more hkk V1.out K2.out O2.out LT.out (alloc_below x2 (.cells #[.slice (some ⟨gv, 0, none⟩) (n k + 1) cpv] 23)) q1 (grown_keep q2) (q3.imp id (fun q => ⟨_, q, Nat.le_refl _⟩))
                  have J9 := hide j8
                  have C11 := hide (show x4.cell? ⟨b5, k, none⟩ = some (.slice (A k) (n k) (C k)) by obtain ⟨b, e, -, h⟩ := row_cell j8.rowG (GG.out.1 k hkk); cases e; exact h)
                  have B11 := hide (B10.out.trans ((grown_keep q2).below B10.out.size (fun z hz q => by have := (World.ownsRow.lt J8.out.rowM z q).1; omega)))
                  clear hrun q1 q2 q3 j8
                  refine wpAnyH_ready (rs := [17]) (by kernel_rfl) (by simp) ?_
                  refine AllReadyH.cons rfl (fun K hK => ?_) AllReadyH.nil
                  refine wp_run 130 (.tmp 113) (.tmp 129) rfl rfl rfl rfl rfl HRR.out ?_
                  refine hK.out _ _ C11.out (fun hS => ?_)
                  clear hK K
                  (try simp only [Act.put, List.setIfInBounds_toArray, List.set_cons_zero, List.set_cons_succ])
                  refine take_at 18 (some 12) (v := ?_) rfl rfl (by kernel_rfl) (by kernel_rfl) (by kernel_rfl) (fun _ _ _ h => h) ⟨by rfl, ?_⟩ hS ?_
                  rotate_left
                  · intro wq hSw; go_simp; try rfl
                  simp only [Act.put, List.setIfInBounds_toArray, List.set_cons_zero, List.set_cons_succ]
                  clear hS
                  refine wpAnyH_done (by kernel_rfl) ?_ _
                  go_wp2_with fail
                  go_roundw
                  case rel => first | exact ⟨k + 1, lab8, I8, _, by go_num, by omega, J9.out, B11.out⟩ | ((repeat apply Exists.intro); exact ⟨⟨k + 1, lab8, I8, _, by go_num, by omega, J9.out, B11.out⟩, rfl⟩)
                  case measure => simp [intOf]; omega
                · obtain rfl : k = 6 := by omega
                  obtain ⟨wz, hwz⟩ : ∃ x, x = wr := ⟨_, rfl⟩
                  subst hwz
                  have hlm := J6.out.lm
                  obtain ⟨AM, CM, hAM⟩ := vals (vG := vM) (n := fun k => n k + 1) (fun k hk => by obtain ⟨a, c, e, -⟩ := GRow.lies (J6.out.own.at_ _ _ (J6.out.done k hk)).1; exact ⟨a, c, e⟩)
                  rw [hlm] at hAM
                  obtain ⟨b7, e7, L7, -⟩ := row_cell J6.out.rowM (hAM 0 (by omega))
                  subst e7
                  have L5 : b5 < wz.heap.size := by obtain ⟨b, e, h, -⟩ := row_cell J6.out.rowG (GG.out.1 0 (by omega)); cases e; exact h
                  have L6 : b6 < wz.heap.size := by obtain ⟨b, e, h, -⟩ := row_cell J6.out.rowW (GW.out.1 0 (by omega)); cases e; exact h
                  have CELG := hide (show ∀ k, k < 6 → wz.cell? ⟨b5, k, none⟩ = some (.slice (A k) (n k) (C k)) from fun k hk => by obtain ⟨b, e, -, h⟩ := row_cell J6.out.rowG (GG.out.1 k hk); cases e; exact h)
                  have CELM := hide (show ∀ k, k < 6 → wz.cell? ⟨b7, k, none⟩ = some (.slice (AM k) (n k + 1) (CM k)) from fun k hk => by obtain ⟨b, e, -, h⟩ := row_cell J6.out.rowM (hAM k hk); cases e; exact h)
                  have CELW := hide (show wz.cell? ⟨b6, 0, none⟩ = some (.slice (A2 0) (n 0) (C2 0)) by obtain ⟨b, e, -, h⟩ := row_cell J6.out.rowW (GW.out.1 0 (by omega)); cases e; exact h)
                  have LIM := hide (show ∀ k, k < 6 → Lies wz (AM k) (drs (marks k (n k + 1))) from fun k hk => by
                    have hh := (J6.out.own.at_ _ _ (J6.out.done k (by omega))).1
                    have e1 := hAM k hk
                    rw [List.getElem?_eq_getElem (by omega)] at e1
                    simp only at hh
                    rw [Option.some.inj e1] at hh
                    obtain ⟨a, c, e, li, -⟩ := GRow.lies hh
                    cases e
                    exact li)
                  have LIG := hide (show ∀ k, k < 6 → Lies wz (A k) (drs (marks k (n k))) from fun k hk => (J6.out.told k hk).li)
                  have SW0 := hide (show Sl wz (A2 0) (n 0) (C2 0) (R 0) by
                    have hh := (J6.out.own.at_ _ _ J6.out.ew).1
                    rw [IT0.out] at hh
                    simp only at hh
                    rw [GW.out.2 0 (by rw [HLW.out]; omega)] at hh
                    obtain ⟨a, c, e, s⟩ := row_sl hh (HNK.out 0).symm (by have := HN64.out 0; omega)
                    cases e
                    exact s)
                  clear J6 hlm hAM IT0
                  go_wp2_with fail
                  go_loopw [14] (fun i ws => ∃ k : Nat, i = .int .i64 (k : Int) ∧ k ≤ 6 ∧ Below wz.heap.size wz ws) (fun i _ => 6 - (intOf i).toNat)
                  case atStart => exact ⟨0, rfl, by omega, Below.refl _ _⟩
                  case round =>
                    obtain ⟨k, rfl, hk6, hbl⟩ := hrel
                    have BU := hide hbl
                    clear hbl
                    by_cases hkk : k < 6
                    · have hnn := HN64.out k
                      go_wp2_with fail
                      go_loopw [15] (fun i ws => ∃ q : Nat, i = .int .i64 (q : Int) ∧ q ≤ n k + 1 ∧ Below wz.heap.size wz ws) (fun i _ => n k + 1 - (intOf i).toNat)
                      case atStart => exact ⟨0, rfl, by omega, BU.out⟩
                      case round =>
                        obtain ⟨q, rfl, hq, hbl⟩ := hrel
                        have BV := hide hbl
                        have C7 := (hbl.cell (p := ⟨b7, k, none⟩) L7).trans (CELM.out k hkk)
                        have C5 := (hbl.cell (p := ⟨b5, k, none⟩) L5).trans (CELG.out k hkk)
                        have ewk := wrapK k (by omega)
                        have ewq := wrapN q (by omega)
                        by_cases hqq : q < n k + 1
                        · obtain ⟨g7, o7, e7, -, m0, m1⟩ := marks_at ((LIM.out k hkk).below hbl) hqq
                          rw [e7] at C7
                          by_cases hqn : q < n k
                          · obtain ⟨g5, o5, e5, -, p0, p1⟩ := marks_at ((LIG.out k hkk).below hbl) hqn
                            rw [e5] at C5
                            have hlt : decide ((q : Int) < ((n k : Nat) : Int)) = true := by simp; omega
                            clear hbl e7 e5 BU
                            go_upto_region 40 with fail
                            go_quiet (fail)
                            go_wp2_with fail
                            go_roundw
                            case rel => first | exact ⟨q + 1, by go_num, by omega, below_drewN BV.out _⟩ | ((repeat apply Exists.intro); exact ⟨⟨q + 1, by go_num, by omega, below_drewN BV.out _⟩, rfl⟩)
                            case measure => simp [intOf]; omega
                          · have hlt : decide ((q : Int) < ((n k : Nat) : Int)) = false := by simp; omega
                            clear hbl e7 BU
                            go_upto_region 40 with fail
                            go_quiet (fail)
                            go_wp2_with fail
                            go_roundw
                            case rel => first | exact ⟨q + 1, by go_num, by omega, below_drewN BV.out _⟩ | ((repeat apply Exists.intro); exact ⟨⟨q + 1, by go_num, by omega, below_drewN BV.out _⟩, rfl⟩)
                            case measure => simp [intOf]; omega
                        · obtain rfl : q = n k + 1 := by omega
                          clear hbl BU C5
                          go_wp2_with fail
                          go_roundw
                          case rel => first | exact ⟨k + 1, by go_num, by omega, BV.out⟩ | ((repeat apply Exists.intro); exact ⟨⟨k + 1, by go_num, by omega, BV.out⟩, rfl⟩)
                          case measure => simp [intOf]; omega
                    · obtain rfl : k = 6 := by omega
                      have C6 := hide ((BU.out.cell (p := ⟨b6, 0, none⟩) L6).trans CELW.out)
                      have SX := hide (SW0.out.below BU.out)
                      have BX := hide (bnext B6.out BU.out (Nat.le_refl _))
                      have L6r : b6 < wr.heap.size := by have := BU.out.size; omega
                      clear CELG CELM CELW LIM LIG SW0 BU B6 L5 L6 L7
                      go_upto_region 42 with fail
                      refine wp_region_held_drew (S := fun wq => Below wr.heap.size wr wq) (by kernel_rfl) (Below.refl _ _).drew (fun hS => ?_)
                      refine take_at 0 (some 185) (v := ?_) rfl rfl (by kernel_rfl) (by kernel_rfl) (by kernel_rfl) (fun _ _ _ h => h) ⟨by rfl, ?_⟩ hS ?_
                      rotate_left
                      · intro wq hSw; go_simp; try rfl
                      simp only [Act.put, List.setIfInBounds_toArray, List.set_cons_zero, List.set_cons_succ]
                      refine take_at 1 (some 186) (v := ?_) rfl rfl (by kernel_rfl) (by kernel_rfl) (by kernel_rfl) (fun _ _ _ h => h) ⟨by rfl, ?_⟩ hS ?_
                      rotate_left
                      · intro wq hSw; go_simp; try rfl
                      simp only [Act.put, List.setIfInBounds_toArray, List.set_cons_zero, List.set_cons_succ]
                      refine take_at 3 (some 188) (v := ?_) rfl rfl (by kernel_rfl) (by kernel_rfl) (by kernel_rfl) (fun _ _ _ h => h) ⟨by rfl, ?_⟩ hS ?_
                      rotate_left
                      · intro wq hSw; go_simp; try rfl
                      simp only [Act.put, List.setIfInBounds_toArray, List.set_cons_zero, List.set_cons_succ]
                      refine take_at 4 (some 189) (v := ?_) rfl rfl (by kernel_rfl) (by kernel_rfl) (by kernel_rfl) (fun _ _ _ h => h) ⟨by rfl, ?_⟩ hS ?_
                      rotate_left
                      · intro wq hSw; go_simp; try rfl
                      simp only [Act.put, List.setIfInBounds_toArray, List.set_cons_zero, List.set_cons_succ]
                      refine take_at 5 (some 190) (v := ?_) rfl rfl (by kernel_rfl) (by kernel_rfl) (by kernel_rfl) (fun _ _ _ h => h) ⟨by rfl, ?_⟩ hS ?_
                      rotate_left
                      · intro wq hSw; have q6 := (hSw.cell (p := ⟨b6, 0, none⟩) L6r).trans C6.out; go_simp; try rfl
                      simp only [Act.put, List.setIfInBounds_toArray, List.set_cons_zero, List.set_cons_succ]
                      refine wpAnyH_ready (rs := [2]) (by kernel_rfl) (by simp) ?_
                      refine AllReadyH.cons rfl (fun K hK => ?_) AllReadyH.nil
                      go_simp
                      go_wp2_with fail
                      refine (KFIN.out _ (Sa.out.below (bnext BX.out hS (Nat.le_refl _))) (Sb.out.below (bnext BX.out hS (Nat.le_refl _)))).mono ?_
                      rintro e y1 ⟨ar, nr, cr, rfl, sr, hh⟩
                      have SR := hide sr
                      have H1 := hide (bnext hS hh (Nat.le_refl _))
                      go_wp2_with fail
                      refine hK.out _ _ H1.out (fun hS => ?_)
                      clear hK K
                      clear hh sr
                      (try simp only [Act.put, List.setIfInBounds_toArray, List.set_cons_zero, List.set_cons_succ])
                      refine wpAnyH_ready (rs := [6]) (by kernel_rfl) (by simp) ?_
                      refine AllReadyH.cons rfl (fun K hK => ?_) AllReadyH.nil
                      go_simp
                      go_wp2_with fail
                      refine (same_h ar (A2 0) nr (n 0) cr (C2 0) (R 0) _ SR.out (SX.out.below H1.out)).mono ?_
                      rintro e y2 ⟨rfl, hh⟩
                      go_wp2_with fail
                      refine hK.out _ _ (bnext H1.out hh (Nat.le_refl _)) (fun hS => ?_)
                      clear hK K
                      clear hh
                      (try simp only [Act.put, List.setIfInBounds_toArray, List.set_cons_zero, List.set_cons_succ])
                      refine take_at 7 (some 4) (v := ?_) rfl rfl (by kernel_rfl) (by kernel_rfl) (by kernel_rfl) (fun _ _ _ h => h) ⟨by rfl, ?_⟩ hS ?_
                      rotate_left
                      · intro wq hSw; go_simp; try rfl
                      simp only [Act.put, List.setIfInBounds_toArray, List.set_cons_zero, List.set_cons_succ]
                      have D9 := hide hS
                      clear hS
                      refine wpAnyH_done (by kernel_rfl) ?_ _
                      go_wp2_with fail
                      go_ret
                      exact ⟨rfl, B3.out.trans ((bnext BX.out D9.out (Nat.le_refl _)).mono B3.out.size)⟩
end Go.Proofs.Ythaiagalndcndaa
