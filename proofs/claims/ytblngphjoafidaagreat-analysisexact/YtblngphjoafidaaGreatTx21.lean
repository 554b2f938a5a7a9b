import Derived.Test.YtblngphjoafidaaGreatTx20
namespace Go.Proofs.YtblngphjoafidaaGreat
open Go.RowKit Go.QK Go.Maps Go.QM Go.QT
set_option maxRecDepth 100000
theorem set_cut2 {L : List Lv} {i : Nat} (hi : i < L.length) (y : Lv) : L.take i ++ [y] ++ L.drop (i + 1) = L.set i y := by
  rw [List.set_eq_take_append_cons_drop, if_pos hi]
  simp
/-- The list is laid anew in the document's table. -/
theorem rlaid {w w5 w6 : World} {B c : Nat} {v v' : Value} {t : TbM} {L' : List Lv} (h : RT w B c v t) (hb : Below w.heap.size w w5) (hr : GRow w5 B 58 4 v' L'.length (rowsC lvC L')) (hn : ∀ g, v'.ownBlock = some g → w.heap.size ≤ g) (hw : w6 = w5.setCell ⟨c, 0, none⟩ v') (hok : TbM.Ok ⟨L', t.next⟩) : RPost B c v ⟨L', t.next⟩ w w6 := by
  have hc := h.lt.1
  have k2 : Keep (fun z => z = c) w5 w6 := by rw [hw]; exact (Keep.refl (fun z => z = c) w5).setCell (g := c) (j := 0) (fun _ => rfl) v'
  refine ⟨v', ⟨?_, GRow.keep hr k2 (fun g hg q => by have := hn g hg; omega), fun g hg => by have := hn g hg; omega, h.low, hok⟩, fun g hg => .inr (hn g hg), (Keep.of_below hb).trans k2 (fun _ _ q => .inl q)⟩
  have := (h.box.below hb).stored (j := 0) (by simp) v'
  rw [← hw] at this
  exact this
theorem lies_of {w : World} {B n : Nat} {v : Value} {xs : List Value} (h : GRow w B 58 4 v n xs) : ∃ a cap, v = .slice a n cap ∧ Lies w a xs ∧ n ≤ cap := by
  obtain ⟨a, cap, e, hl, h1, -⟩ := GRow.lies h
  exact ⟨a, cap, e, hl, h1⟩
def GoPost (B c : Nat) (v : Value) (t : TbM) (lsn k tx prev : Int) (w : World) (e : Ending) (w' : World) : Prop := e = .returned (.int .i64 (t.chainE lsn k tx prev)) ∧ RPost B c v (if t.chainE lsn k tx prev = 0 then t.went lsn k tx else t) w w'
set_option maxHeartbeats 8000000 in
theorem goes_any (B c : Nat) (v : Value) (t : TbM) (rc : Array Value) (lsn k tx prev : Int) (w : World) (h : RT w B c v t) (hr : RecA rc lsn k tx prev) (hl : isLsn lsn = true) (hk1 : 3 ≤ k) (hk2 : k ≤ 7) : Calls Tryz.prog 39 #[ptr c, .agg rc] w (GoPost B c v t lsn k tx prev w) := by
  unfold GoPost
  obtain ⟨E, hE⟩ : ∃ E, E = t.chainE lsn k tx prev := ⟨_, rfl⟩
  obtain ⟨T', hT⟩ : ∃ T', T' = if E = 0 then t.went lsn k tx else t := ⟨_, rfl⟩
  rw [← hE, ← hT]
  have HE := hide hE
  have HT := hide hT
  have HNT := hide (show E = 0 → T' = t.noteT lsn k tx prev from fun q => by rw [hT, if_pos q, note_go (by rw [note_pass hl hk1 hk2, ← hE]; exact q)])
  have HOK := hide (h.ok.noteT lsn k tx prev)
  have few := h.ok.few
  have HP := hide h
  have HA := hide hr
  have HLs := hide hl
  clear h hr hE hT hl
  go_enter Tryz.func39, Tryz.ntmps39
  go_upto_region 1 with fail
  refine named (P := Code.wp _ _ _ _) ?_
  intro w1 hw1
  obtain ⟨rb, hrb⟩ : ∃ rb, rb = w.heap.size := ⟨_, rfl⟩
  have P1 := hide (show RT w1 B c v t by rw [hw1]; exact HP.out.below (alloc_below _ _))
  have X1 := hide (show RBox w1 rb 55 rc by rw [hw1, hrb]; exact RBox.new _ _ _)
  have B1 := hide (show Below w.heap.size w w1 by rw [hw1]; exact alloc_below _ _)
  have RB := hide (show w.heap.size ≤ rb by rw [hrb]; exact Nat.le_refl _)
  rw [← hrb]
  clear hw1 hrb
  obtain ⟨y0, y1, y2, y3⟩ := HA.out.box X1.out
  have K := place_any B c v t tx w1 P1.out
  unfold PlPost at K
  go_wp2_with fail
  refine K.mono ?_
  rintro e w2 ⟨rfl, ⟨rfl, hq⟩ | ⟨i, hi, rfl, hx⟩⟩
  · have HQ := hide (show E = 130 by rw [HE.out]; unfold TbM.chainE; rw [hq])
    have HQ2 := hide (show T' = t by rw [HT.out, HQ.out]; rfl)
    clear hq K
    go_wp2_with fail
    go_ret
    exact ⟨by rw [HQ.out]; rfl, by rw [HQ2.out]; exact RPost.belowL B1.out (RPost.stay P1.out)⟩
  · clear K
    have hgt := getT_at P1.out.ok.rise hi
    rw [hx] at hgt
    have HGT := hide hgt
    have HXE := hide (show E = if prev = t.L[i].last ∧ t.L[i].last < lsn then (if fitsK k t.L[i] then 0 else 70) else 4 by rw [HE.out]; unfold TbM.chainE; rw [hgt])
    have XO := hide (P1.out.ok.each _ (List.getElem_mem hi))
    have HXT := hide hx
    have HIX := hide (show ∃ x, x = t.L[i] from ⟨_, rfl⟩)
    obtain ⟨g, cap, rfl, hgB, hbl, hlie, hcap, hcm⟩ := row_pos P1.out.row (by omega)
    obtain ⟨b9, o9, ha9, -, p0, p1, p2, p3⟩ := row_at hlie (Below.refl _ _) hi
    cases ha9
    rw [Nat.zero_add] at p0 p1 p2 p3
    have CAP := hide (And.intro hcap hgB)
    clear hcap hcm hgB
    obtain ⟨x, hxx⟩ : ∃ x, x = t.L[i] := ⟨_, rfl⟩
    rw [← hxx] at p0 p1 p2 p3 HXE XO HXT HGT
    have HXX := hide hxx
    have HLIE := hide hlie
    obtain ⟨k0, -⟩ := P1.out.box.get 0 _ rfl
    have hd : decide ((i : Int) < 0) = false := by simp
    obtain ⟨z1, z2, z3, z4⟩ := x
    simp only at p0 p1 p2 p3 HXE HXT
    clear hgt hx hxx hlie HIX
    go_upto_region 5 with fail
    refine named (P := Code.wp _ _ _ _) ?_
    intro w2 hw2
    obtain ⟨xb, hxb⟩ : ∃ xb, xb = w1.heap.size := ⟨_, rfl⟩
    have P2 := hide (show RT w2 B c (.slice (some ⟨g, 0, none⟩) t.L.length cap) t by rw [hw2]; exact P1.out.below (alloc_below _ _))
    have X2 := hide (show RBox w2 rb 55 rc by rw [hw2]; exact X1.out.below (alloc_below _ _))
    have B2 := hide (show Below w.heap.size w w2 by rw [hw2]; exact B1.out.alloc B1.out.size _)
    have C2 := hide (show Cells w2 xb [.int .i64 z1, .int .i64 z2, .bool z3, .bool z4] by rw [hw2, hxb]; exact Cells.new _ _ _)
    have XB := hide (show rb < xb ∧ c < xb ∧ w.heap.size ≤ rb by rw [hxb]; have := X1.out.lt; have := P1.out.lt.1; have := RB.out; omega)
    have L2 := hide (show Lies w2 (some ⟨g, 0, none⟩) (rowsC lvC t.L) by rw [hw2]; exact HLIE.out.below (alloc_below _ _))
    have BW2 := B2
    have HBL := hide (show g < xb by rw [hxb]; exact hbl)
    rw [← hxb]
    clear hw2 hxb p0 p1 p2 p3 k0 y0 y1 y2 y3 HLIE P1 X1 B1 RB hbl
    obtain ⟨y0, y1, y2, y3⟩ := HA.out.box X2.out
    obtain ⟨c0, -⟩ := C2.out.get 0 _ rfl
    obtain ⟨c1, f1⟩ := C2.out.get 1 _ rfl
    obtain ⟨c2, f2⟩ := C2.out.get 2 _ rfl
    obtain ⟨c3, f3⟩ := C2.out.get 3 _ rfl
    by_cases hp : prev = z2
    · have d1 : (prev != z2) = false := by simpa using hp
      by_cases hlt : z2 < lsn
      · have d2 : decide (lsn ≤ z2) = false := by simp; omega
        have hE2 := HXE.out
        rw [if_pos ⟨hp, hlt⟩] at hE2
        have HE2 := hide hE2
        clear hE2 hp hlt
        go_upto_region 7 with fail
        go_cut [7] (fun v w' => v = .bool (!z3 && !z4) ∧ w2 = w')
        case first =>
          cases z3
          · go_wp2_with fail
            go_meet
            exact ⟨by simp, rfl⟩
          · go_wp2_with fail
            go_meet
            exact ⟨by simp, rfl⟩
        case rest =>
          obtain ⟨rfl, rfl⟩ := hcut
          go_upto_region 8 with fail
          go_cut [76] (fun v w' => v = .bool (!fitsK k ⟨z1, z2, z3, z4⟩) ∧ w2 = w')
          case first =>
            rcases (show k = 3 ∨ k = 4 ∨ k = 5 ∨ k = 6 ∨ k = 7 by omega) with rfl | rfl | rfl | rfl | rfl
            · cases z3
              · cases z4
                · go_wp2_with fail
                  go_meet
                  exact ⟨rfl, rfl⟩
                · go_wp2_with fail
                  go_meet
                  exact ⟨rfl, rfl⟩
              · cases z4
                · go_wp2_with fail
                  go_meet
                  exact ⟨rfl, rfl⟩
                · go_wp2_with fail
                  go_meet
                  exact ⟨rfl, rfl⟩
            · cases z3
              · cases z4
                · go_wp2_with fail
                  go_meet
                  exact ⟨rfl, rfl⟩
                · go_wp2_with fail
                  go_meet
                  exact ⟨rfl, rfl⟩
              · cases z4
                · go_wp2_with fail
                  go_meet
                  exact ⟨rfl, rfl⟩
                · go_wp2_with fail
                  go_meet
                  exact ⟨rfl, rfl⟩
            · cases z3
              · cases z4
                · go_wp2_with fail
                  go_meet
                  exact ⟨rfl, rfl⟩
                · go_wp2_with fail
                  go_meet
                  exact ⟨rfl, rfl⟩
              · cases z4
                · go_wp2_with fail
                  go_meet
                  exact ⟨rfl, rfl⟩
                · go_wp2_with fail
                  go_meet
                  exact ⟨rfl, rfl⟩
            · cases z3
              · cases z4
                · go_wp2_with fail
                  go_meet
                  exact ⟨rfl, rfl⟩
                · go_wp2_with fail
                  go_meet
                  exact ⟨rfl, rfl⟩
              · cases z4
                · go_wp2_with fail
                  go_meet
                  exact ⟨rfl, rfl⟩
                · go_wp2_with fail
                  go_meet
                  exact ⟨rfl, rfl⟩
            · cases z3
              · cases z4
                · go_wp2_with fail
                  go_meet
                  exact ⟨rfl, rfl⟩
                · go_wp2_with fail
                  go_meet
                  exact ⟨rfl, rfl⟩
              · cases z4
                · go_wp2_with fail
                  go_meet
                  exact ⟨rfl, rfl⟩
                · go_wp2_with fail
                  go_meet
                  exact ⟨rfl, rfl⟩
          case rest =>
            obtain ⟨rfl, rfl⟩ := hcut
            cases hF : fitsK k ⟨z1, z2, z3, z4⟩ with
            | false =>
              have HQ := hide (show E = 70 by rw [HE2.out, hF]; rfl)
              have HQ2 := hide (show T' = t by rw [HT.out, HQ.out]; rfl)
              clear hF
              go_wp2_with fail
              go_ret
              exact ⟨by rw [HQ.out]; rfl, by rw [HQ2.out]; exact RPost.belowL B2.out (RPost.stay P2.out)⟩
            | true =>
              have HQ := hide (show E = 0 by rw [HE2.out, hF]; rfl)
              have HQ2 := hide (HNT.out HQ.out)
              clear hF
              have hcap := CAP.out.1
              have hB2 : B ≤ w2.heap.size := by have := P2.out.low; have := P2.out.lt.1; omega
              have hst := fun w => slice_to4 Tryz.underlying31 Tryz.sizeOf58 ⟨g, 0, none⟩ t.L.length cap i w (by omega) hcap
              have hg2 : g < w2.heap.size := P2.out.lt.2 g rfl
              obtain ⟨A1, hA1⟩ : ∃ A1, A1 = t.L.take i := ⟨_, rfl⟩
              obtain ⟨D1, hD1⟩ : ∃ D1, D1 = t.L.drop (i + 1) := ⟨_, rfl⟩
              have LN := hide (show (rowsC lvC A1).length = 4 * i ∧ (rowsC lvC D1).length = 4 * (t.L.length - (i + 1)) ∧ A1.length = i ∧ D1.length = t.L.length - (i + 1) from ⟨by rw [rowsC_len lvC 4 (fun _ => rfl), hA1]; simp; omega, by rw [rowsC_len lvC 4 (fun _ => rfl), hD1]; simp, by rw [hA1]; simp; omega, by rw [hD1]; simp⟩)
              have LT := hide (show Lies w2 (some ⟨g, 0, none⟩) (rowsC lvC A1) by rw [hA1]; exact lies_take4 L2.out i hg2)
              have HA1 := hide hA1
              have HD1 := hide hD1
              clear hA1 hD1
              obtain ⟨k0, -⟩ := P2.out.box.get 0 _ rfl
              go_upto_region 12 with (at_builtin; refine wpList_appR Tryz.underlying31 info26 rfl (by decide) (by decide) rfl _ _ rfl B (.slice none 0 0) 0 [] rfl (World.ownsRow_nil _ _ _ _) (some ⟨g, 0, none⟩) i cap (rowsC lvC A1) rfl (by have := LN.out; omega) LT.out (rows_one _) (fun q => by cases q) (by omega) hB2 ?_; intro v3 w3 ho3 hg3 hn3; go_frame)
              have B3 := hide ((Below.refl w2.heap.size w2).grown hg3 (Nat.le_refl _) (fun q hq => by cases hq))
              have HV3 := hide (show ∀ q, v3.ownBlock = some q → w2.heap.size ≤ q from fun q hq => by rcases hn3 with e | e; (rw [e] at hq; cases hq); (rw [e] at hq; cases hq; exact Nat.le_refl _))
              have O3 := hide (show GRow w3 B 58 4 v3 i (rowsC lvC A1) by have := ho3; simp only [Nat.zero_add, List.nil_append] at this; exact this)
              clear ho3 hg3 hn3 k0 LT
              have P3 := hide (P2.out.below B3.out)
              have C3 := hide (C2.out.below B3.out)
              have X3 := hide (X2.out.below B3.out)
              have L3 := hide (L2.out.below B3.out)
              have BW3 := hide (B2.out.trans (B3.out.mono B2.out.size))
              have S2 := hide (show xb < w2.heap.size ∧ c < w2.heap.size ∧ rb < w2.heap.size ∧ g < w2.heap.size ∧ w.heap.size ≤ w2.heap.size from ⟨C2.out.1, P2.out.lt.1, X2.out.lt, hg2, B2.out.size⟩)
              clear y0 y1 y2 y3 c0 c1 c2 c3 f1 f2 f3 C2 X2 hst B2 HE2 HXE
              have hsf := fun w => slice_from4' Tryz.underlying31 Tryz.sizeOf58 (some ⟨g, 0, none⟩) t.L.length cap i w (by omega) hcap
              have hwi : wrap64 ((i : Int) + 1) = (i : Int) + 1 := wrapI (by unfold I64; omega)
              obtain ⟨ad, had⟩ := drop4_some g cap (i + 1)
              rw [had] at hsf
              obtain ⟨y0, y1, -, -⟩ := HA.out.box X3.out
              have LD := hide (show ∀ wz, Below w2.heap.size w2 wz → Lies wz (some ad) (rowsC lvC D1) from fun wz hz => by rw [← had, HD1.out]; exact lies_drop4 ((L2.out).below hz) hcap (Nat.lt_of_lt_of_le S2.out.2.2.2.1 hz.size))
              have OK2 := HOK.out
              rw [← HQ2.out] at OK2
              obtain ⟨a9, c9, e9, -, -⟩ := lies_of O3.out
              subst e9
              by_cases h7 : k = 7
              · as_aux_lemma =>
                  subst h7
                  have HVX := HV3
                  have HBW := hide (show Below w.heap.size w w2 from BW2.out)
                  obtain ⟨k0, -⟩ := (P2.out.box.below B3.out).get 0 _ rfl
                  go_wp2_with (first | (at_builtin; refine wpList_appR Tryz.underlying31 info26 rfl (by decide) (by decide) rfl _ _ rfl B _ i (rowsC lvC A1) rfl O3.out (some ad) (t.L.length - (i + 1)) (cap - (i + 1)) (rowsC lvC D1) rfl (by have := LN.out; omega) (LD.out _ B3.out) (rows_one _) (fun q => by cases q) (by omega) (by have := B3.out.size; omega) ?_; intro v4 w4 ho4 hg4 hn4; have kg4 : Below w2.heap.size w2 w4 := B3.out.trans ((Below.refl w2.heap.size w3).grown hg4 B3.out.size (fun q hq => HVX.out q hq)); obtain ⟨kc0, kf0⟩ := (P2.out.box.below kg4).get 0 _ rfl; obtain ⟨aa, cc, ee, _, _⟩ := lies_of ho4; subst ee; go_frame) | fail)
                  go_ret
                  refine ⟨by rw [HQ.out]; rfl, ?_⟩
                  have eL : T' = ⟨A1 ++ D1, t.next⟩ := by rw [HQ2.out, note_go (by rw [note_pass HLs.out (by omega) (by omega), ← HE.out]; exact HQ.out)]; show (⟨delT t.L tx, t.next⟩ : TbM) = _; rw [HA1.out, HD1.out, take_drop_del P2.out.ok.rise hi, ← HXX.out]; simp only; rw [HXT.out]
                  rw [eL] at OK2 ⊢
                  have eN : i + (t.L.length - (i + 1)) = (A1 ++ D1).length := by have := LN.out; simp; omega
                  refine rlaid HP.out (HBW.out.trans (kg4.mono HBW.out.size)) (v' := .slice aa (i + (t.L.length - (i + 1))) cc) ?_ ?_ rfl OK2
                  · rw [← eN]; have := ho4; rw [show (rowsC lvC A1) ++ rowsC lvC D1 = rowsC lvC (A1 ++ D1) by simp [rowsC]] at this; exact this
                  · intro q hq; rcases hn4 with e | e; (rw [e] at hq; have := HVX.out q hq; have := S2.out; omega); (rw [e] at hq; cases hq; have := B3.out.size; have := S2.out; omega)
              · have d7 : (k != 7) = true := by simpa using h7
                obtain ⟨c0, -⟩ := C3.out.get 0 _ rfl
                obtain ⟨c1, f1⟩ := C3.out.get 1 _ rfl
                go_upto_region 14 with fail
                refine named (P := Code.wp _ _ _ _) ?_
                intro w4 hw4
                have k4 : Keep (fun z => z = xb) w3 w4 := by rw [hw4]; exact (Keep.refl (fun z => z = xb) w3).setCell (g := xb) (j := 1) (fun _ => rfl) _
                have C4 := hide (show Cells w4 xb [.int .i64 z1, .int .i64 lsn, .bool z3, .bool z4] by rw [hw4]; have := C3.out.stored (j := 1) (by simp) (.int .i64 lsn); simpa using this)
                have X4 := hide (X3.out.keep k4 (by have := XB.out; omega))
                have K4 := hide k4
                clear hw4 k4 c0 c1 f1 C3 X3 y0 y1
                go_cut [97] (fun _ w' => Cells w' xb [.int .i64 z1, .int .i64 lsn, .bool (z3 || decide (k = 5)), .bool z4] ∧ Keep (fun z => z = xb) w4 w')
                case first =>
                  obtain ⟨d2, e2⟩ := C4.out.get 2 _ rfl
                  obtain ⟨-, ky, -, -⟩ := HA.out.box X4.out
                  cases z3
                  · by_cases hk5 : k = 5
                    · have dk : (k == 5) = true := by simpa using hk5
                      go_wp2_with fail
                      go_meet
                      exact ⟨by have := C4.out.stored (j := 2) (by simp) (.bool true); simpa [hk5] using this, (Keep.refl (fun z => z = xb) w4).setCell (g := xb) (j := 2) (fun _ => rfl) _⟩
                    · have dk : (k == 5) = false := by simpa using hk5
                      go_wp2_with fail
                      go_meet
                      exact ⟨by have := C4.out.stored (j := 2) (by simp) (.bool false); simpa [hk5] using this, (Keep.refl (fun z => z = xb) w4).setCell (g := xb) (j := 2) (fun _ => rfl) _⟩
                  · go_wp2_with fail
                    go_meet
                    exact ⟨by have := C4.out.stored (j := 2) (by simp) (.bool true); simpa using this, (Keep.refl (fun z => z = xb) w4).setCell (g := xb) (j := 2) (fun _ => rfl) _⟩
                case rest =>
                  obtain ⟨c5, k5⟩ := hcut
                  obtain ⟨w5, hw5⟩ : ∃ w5, w5 = wc := ⟨_, rfl⟩
                  rw [← hw5] at c5 k5 ⊢
                  clear hw5
                  have C5 := hide c5
                  have X5 := hide (X4.out.keep k5 (by have := XB.out; omega))
                  have K5 := hide (K4.out.trans k5 (fun _ _ q => q))
                  clear c5 k5 C4 X4 K4
                  go_upto_region 15 with fail
                  go_cut [105] (fun _ w' => Cells w' xb [.int .i64 z1, .int .i64 lsn, .bool (z3 || decide (k = 5)), .bool (z4 || decide (k = 6))] ∧ Keep (fun z => z = xb) w5 w')
                  case first =>
                    obtain ⟨d2, e2⟩ := C5.out.get 3 _ rfl
                    obtain ⟨-, ky, -, -⟩ := HA.out.box X5.out
                    cases z4
                    · by_cases hk5 : k = 6
                      · have dk : (k == 6) = true := by simpa using hk5
                        go_wp2_with fail
                        go_meet
                        exact ⟨by have := C5.out.stored (j := 3) (by simp) (.bool true); simpa [hk5] using this, (Keep.refl (fun z => z = xb) w5).setCell (g := xb) (j := 3) (fun _ => rfl) _⟩
                      · have dk : (k == 6) = false := by simpa using hk5
                        go_wp2_with fail
                        go_meet
                        exact ⟨by have := C5.out.stored (j := 3) (by simp) (.bool false); simpa [hk5] using this, (Keep.refl (fun z => z = xb) w5).setCell (g := xb) (j := 3) (fun _ => rfl) _⟩
                    · go_wp2_with fail
                      go_meet
                      exact ⟨by have := C5.out.stored (j := 3) (by simp) (.bool true); simpa using this, (Keep.refl (fun z => z = xb) w5).setCell (g := xb) (j := 3) (fun _ => rfl) _⟩
                  case rest =>
                    as_aux_lemma =>
                      obtain ⟨c6, k6⟩ := hcut
                      obtain ⟨w6, hw6⟩ : ∃ w6, w6 = wc := ⟨_, rfl⟩
                      rw [← hw6] at c6 k6 ⊢
                      clear hw6
                      have C6 := hide c6
                      have K6 := hide (K5.out.trans k6 (fun _ _ q => q))
                      clear c6 k6 C5 X5 K5
                      have P6 := hide (P3.out.keep K6.out (by have := XB.out; omega) (fun g0 hg0 => by have e : g = g0 := (by simpa [Value.ownBlock] using hg0); have := HBL.out; omega))
                      have L6 := hide (show Lies w6 (some ⟨g, 0, none⟩) (rowsC lvC t.L) from (L3.out.keep K6.out (fun ad0 q => by cases q; have := HBL.out; simp only; omega)))
                      have O6 := hide (GRow.keep O3.out K6.out (fun q hq e => by have := HV3.out q hq; have := S2.out; omega))
                      have BW6 := hide (show Below w.heap.size w w6 from BW3.out.trans (K6.out.below BW3.out.size (fun z hz q => by have := XB.out; omega)))
                      have S6 := hide (show w2.heap.size ≤ w6.heap.size from Nat.le_trans B3.out.size K6.out.size)
                      obtain ⟨q0, -⟩ := C6.out.get 0 _ rfl
                      obtain ⟨q1, -⟩ := C6.out.get 1 _ rfl
                      obtain ⟨q2, -⟩ := C6.out.get 2 _ rfl
                      obtain ⟨q3, -⟩ := C6.out.get 3 _ rfl
                      go_upto_region 17 with (first | (at_builtin; refine wpList_appR Tryz.underlying31 info26 rfl (by decide) (by decide) rfl _ _ rfl B _ i (rowsC lvC A1) rfl (GRow.below O6.out (alloc_below w6 (.cells #[.int .i64 z1, .int .i64 lsn, .bool (z3 || decide (k = 5)), .bool (z4 || decide (k = 6))] 58))) (some ⟨w6.heap.size, 0, none⟩) 1 1 (lvC (⟨z1, lsn, z3 || decide (k = 5), z4 || decide (k = 6)⟩ : Lv)) rfl (by rfl) (lies_new4 w6 (⟨z1, lsn, z3 || decide (k = 5), z4 || decide (k = 6)⟩ : Lv) 58) (lvC_one _) (fun q => by cases q) (by omega) (by have := S6.out; simp; omega) ?_; intro v8 w8 ho8 hg8 hn8; have k8 : Keep (fun z => w2.heap.size ≤ z) w6 w8 := ((Keep.refl (fun z => w2.heap.size ≤ z) w6).alloc (.cells #[.int .i64 z1, .int .i64 lsn, .bool (z3 || decide (k = 5)), .bool (z4 || decide (k = 6))] 58)).grown hg8 (fun q hq _ => HV3.out q hq); go_frame) | fail)
                      have HV8 := hide (show ∀ q, v8.ownBlock = some q → w2.heap.size ≤ q from fun q hq => by rcases hn8 with e | e; (rw [e] at hq; exact HV3.out q hq); (rw [e] at hq; cases hq; have := S6.out; simp; omega))
                      have K8 := hide k8
                      have O8 := hide ho8
                      clear k8 hg8 hn8 ho8 q0 q1 q2 q3
                      have S8 := hide (show w2.heap.size ≤ w8.heap.size from Nat.le_trans S6.out K8.out.size)
                      obtain ⟨k0, -⟩ := (P6.out.box.keep K8.out (by have := S2.out; omega)).get 0 _ rfl
                      have LD8 := hide (show Lies w8 (some ad) (rowsC lvC D1) by rw [← had, HD1.out]; exact lies_drop4 (L6.out.keep K8.out (fun ad0 q => by cases q; have := S2.out; simp only; omega)) hcap (by have := S8.out; have := S2.out; omega))
                      obtain ⟨a10, c10, e10, -, -⟩ := lies_of O8.out
                      subst e10
                      go_wp2_with (first | (at_builtin; refine wpList_appR Tryz.underlying31 info26 rfl (by decide) (by decide) rfl _ _ rfl B _ (i + 1) (rowsC lvC A1 ++ lvC (⟨z1, lsn, z3 || decide (k = 5), z4 || decide (k = 6)⟩ : Lv)) rfl O8.out (some ad) (t.L.length - (i + 1)) (cap - (i + 1)) (rowsC lvC D1) rfl (by have := LN.out; omega) LD8.out (rows_one _) (fun q => by cases q) (by omega) (by have := S8.out; omega) ?_; intro v9 w9 ho9 hg9 hn9; have k9 : Keep (fun z => w2.heap.size ≤ z) w6 w9 := K8.out.grown hg9 (fun q hq _ => HV8.out q hq); obtain ⟨kc0, kf0⟩ := (P6.out.box.keep k9 (by have := S2.out; omega)).get 0 _ rfl; obtain ⟨aa, cc, ee, _, _⟩ := lies_of ho9; subst ee; go_frame) | fail)
                      go_ret
                      refine ⟨by rw [HQ.out]; rfl, ?_⟩
                      have eL : T' = ⟨A1 ++ [(⟨z1, lsn, z3 || decide (k = 5), z4 || decide (k = 6)⟩ : Lv)] ++ D1, t.next⟩ := by rw [HQ2.out, note_go (by rw [note_pass HLs.out hk1 hk2, ← HE.out]; exact HQ.out), went_chain HGT.out hk1 (by omega), HA1.out, HD1.out, set_cut2 hi, set_setT P2.out.ok.rise hi (v := (⟨z1, lsn, z3 || decide (k = 5), z4 || decide (k = 6)⟩ : Lv)) (by rw [← HXX.out])]; rfl
                      rw [eL] at OK2 ⊢
                      have eN : i + 1 + (t.L.length - (i + 1)) = (A1 ++ [(⟨z1, lsn, z3 || decide (k = 5), z4 || decide (k = 6)⟩ : Lv)] ++ D1).length := by have := LN.out; simp; omega
                      refine rlaid HP.out (BW6.out.trans (k9.below BW6.out.size (fun z hz q => by have := S2.out; omega))) (v' := .slice aa (i + 1 + (t.L.length - (i + 1))) cc) ?_ ?_ rfl OK2
                      · rw [← eN]; have := ho9; rw [show rowsC lvC A1 ++ lvC (⟨z1, lsn, z3 || decide (k = 5), z4 || decide (k = 6)⟩ : Lv) ++ rowsC lvC D1 = rowsC lvC (A1 ++ [(⟨z1, lsn, z3 || decide (k = 5), z4 || decide (k = 6)⟩ : Lv)] ++ D1) by simp [rowsC]] at this; exact this
                      · intro q hq; rcases hn9 with e | e; (rw [e] at hq; have := HV8.out q hq; have := S2.out; omega); (rw [e] at hq; cases hq; have := S8.out; have := S2.out; omega)
      · have d2 : decide (lsn ≤ z2) = true := by simp; omega
        have hE2 := HXE.out
        rw [if_neg (fun q => hlt q.2)] at hE2
        have HQ := hide hE2
        have HQ2 := hide (show T' = t by rw [HT.out, hE2]; rfl)
        clear hE2 hlt
        go_wp2_with fail
        go_ret
        exact ⟨by rw [HQ.out]; rfl, by rw [HQ2.out]; exact RPost.belowL B2.out (RPost.stay P2.out)⟩
    · have d1 : (prev != z2) = true := by simpa using hp
      have hE2 := HXE.out
      rw [if_neg (fun q => hp q.1)] at hE2
      have HQ := hide hE2
      have HQ2 := hide (show T' = t by rw [HT.out, hE2]; rfl)
      clear hE2 hp
      go_wp2_with fail
      go_ret
      exact ⟨by rw [HQ.out]; rfl, by rw [HQ2.out]; exact RPost.belowL B2.out (RPost.stay P2.out)⟩
end Go.Proofs.YtblngphjoafidaaGreat
