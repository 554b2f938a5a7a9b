import Derived.Test.YtokcocmenndlmaaTx32
import Derived.Test.YtokcocmenndlmaaTx33
namespace Go.Proofs.Ytokcocmenndlmaa
open Go.RowKit Go.QK Go.Maps Go.QM Go.QT
set_option maxRecDepth 100000
theorem lies_takeR {α : Type} {f : α → List Value} {w : World} {a : Option Addr} {L : List α} (h : Lies w a (rowsC f L)) (k : Nat) : Lies w a (rowsC f (L.take k)) := by
  have e : rowsC f L = rowsC f (L.take k) ++ rowsC f (L.drop k) := by unfold rowsC; rw [← List.flatMap_append, List.take_append_drop]
  rw [e] at h
  exact h.front
theorem begunPost {lab : Nat → Nat} {w w1 w2 : World} {B : Nat} {T : Tab} (h : Tb lab w B T) (he : ∀ j, j < 2 → T.rp j = T.rq j) {i : Nat} (hi : i < 2) {b m c : Nat} {v : Value} {r : TbM} (hb : Below w.heap.size w w1) (hp : PT w1 b m r) (hr : RT w1 w.heap.size c v r) (hn : w.heap.size ≤ b ∧ w.heap.size ≤ m) (hd : c ≠ b ∧ c ≠ m ∧ (∀ g, v.ownBlock = some g → g ≠ b ∧ g ≠ m)) (hw : w2 = (w1.setCell ⟨T.t, i, none⟩ (ptr b)).setCell ⟨T.t, 2 + i, none⟩ (ptr c)) : TPost 0 w B T (.returned (.bool true)) w2 := by
  obtain ⟨lab', tb⟩ := h.begun hi hb hp hr hn hd hw
  have hB : B ≤ w.heap.size := by have := h.low.1; have := h.box.1; omega
  have k : Keep (fun z => z = T.t) w1 w2 := by rw [hw]; exact ((Keep.refl (fun z => z = T.t) w1).setCell (g := T.t) (j := i) (fun _ => rfl) (ptr b)).setCell (g := T.t) (j := 2 + i) (fun _ => rfl) (ptr c)
  refine ⟨rfl, lab', _, tb, fun j hj => ?_, rfl, (hb.mono hB).trans (k.below (Nat.le_trans hB hb.size) (fun z hz q => by have e9 : z = T.t := q; have := h.low.1; omega)), Nat.le_refl _⟩
  show upd T.rp i r j = upd T.rq i r j
  by_cases q : j = i
  · rw [q, upd_same, upd_same]
  · rw [upd_other _ _ q, upd_other _ _ q]; exact he j hj
theorem stayPost {lab : Nat → Nat} {w w1 : World} {B : Nat} {T : Tab} (h : Tb lab w B T) (he : ∀ j, j < 2 → T.rp j = T.rq j) (hb : Below w.heap.size w w1) : TPost 0 w B T (.returned (.bool true)) w1 :=
  ⟨rfl, lab, T, h.below hb, he, rfl, hb.mono (by have := h.low.1; have := h.box.1; omega), Nat.le_refl _⟩
set_option maxHeartbeats 16000000 in
theorem loads_any (lab : Nat → Nat) (B : Nat) (T : Tab) (i : Nat) (la da : Option Addr) (lc dc : Nat) (next : Int) (L : List Lv) (D : List (Int × Int)) (w : World) (h : Tb lab w B T) (hi : i < 2) (he : ∀ j, j < 2 → T.rp j = T.rq j) (hL : Lies w la (rowsC lvC L)) (hD : Lies w da (rowsC dC D)) (hnl : la = none → lc = 0 ∧ L.length = 0) (hnd : da = none → dc = 0 ∧ D.length = 0) (hcl : L.length ≤ lc) (hcd : D.length ≤ dc) :
    Calls Try.prog 34 #[ptr T.t, .int .i64 (i : Int), .agg #[.slice la L.length lc, .slice da D.length dc, .int .i64 next]] w (TPost 0 w B T) := by
  obtain ⟨L1, hL1⟩ : ∃ x, x = L.take 100 := ⟨_, rfl⟩
  obtain ⟨D1, hD1⟩ : ∃ x, x = D.take 100 := ⟨_, rfl⟩
  have lL : L1.length ≤ 100 := by rw [hL1]; simp; omega
  have lD : D1.length ≤ 100 := by rw [hD1]; simp; omega
  have LI := hide (show Lies w la (rowsC lvC L1) by rw [hL1]; exact lies_takeR hL 100)
  have DI := hide (show Lies w da (rowsC dC D1) by rw [hD1]; exact lies_takeR hD 100)
  have NL := hide (show la = none → lc = 0 ∧ L1.length = 0 from fun q => ⟨(hnl q).1, by have := (hnl q).2; rw [hL1, List.length_take]; omega⟩)
  have ND := hide (show da = none → dc = 0 ∧ D1.length = 0 from fun q => ⟨(hnd q).1, by have := (hnd q).2; rw [hD1, List.length_take]; omega⟩)
  have EL1 : L1.length = if 100 < L.length then 100 else L.length := by rw [hL1]; split <;> simp <;> omega
  have ED1 : D1.length = if 100 < D.length then 100 else D.length := by rw [hD1]; split <;> simp <;> omega
  have SOL : 100 < L.length → ∃ ad, la = some ad := fun q => by cases la with | none => have := (hnl rfl).2; omega | some ad => exact ⟨ad, rfl⟩
  have SOD : 100 < D.length → ∃ ad, da = some ad := fun q => by cases da with | none => have := (hnd rfl).2; omega | some ad => exact ⟨ad, rfl⟩
  have HT := hide h
  have HQ := hide he
  have ELH := hide EL1
  have EDH := hide ED1
  have SLH := hide SOL
  have SDH := hide SOD
  have HOKL := hide hcl
  have HOKD := hide hcd
  clear h he hL hD hnl hnd hL1 hD1 EL1 ED1 SOL SOD hcl hcd
  go_enter Try.func34, Try.ntmps34
  go_upto_region 1 with fail
  refine named (P := Code.wp _ _ _ _) ?_
  intro w1 hw1
  obtain ⟨pb, hpb⟩ : ∃ b, b = w.heap.size := ⟨_, rfl⟩
  have CP0 := hide (show Cells w1 pb [.slice la L.length lc, .slice da D.length dc, .int .i64 next] by rw [hw1, hpb]; exact Cells.new w _ _)
  have B0 := hide (show Below w.heap.size w w1 by rw [hw1]; exact alloc_below _ _)
  have HPB := hide (show w.heap.size ≤ pb by omega)
  rw [← hpb]
  clear hw1 hpb
  obtain ⟨p0, pf0⟩ := CP0.out.get 0 _ rfl
  go_upto_if 16 with fail
  go_cut [20] (fun _ w' => Cells w' pb [.slice la L1.length lc, .slice da D.length dc, .int .i64 next] ∧ Below w.heap.size w w')
  case first =>
    by_cases hN : 100 < L.length
    · have dN : decide (100 < (L.length : Int)) = true := by simp; omega
      obtain ⟨ad, rfl⟩ := SLH.out hN
      have e1 := ELH.out
      rw [if_pos hN] at e1
      have q : ∀ w, (Instr.slice 33 (.slice (some ad) L.length lc) none (some (.int .i64 100)) none).run Try.prog w = .ok (.slice (some ad) 100 lc) w := fun w => slice_to4 Try.underlying33 Try.sizeOf26 ad L.length lc 100 w (by omega) HOKL.out
      have FIN := hide (CP0.out.stored (j := 0) (by simp) (.slice (some ad) 100 lc))
      have KF := hide (B0.out.trans ((((Keep.refl (fun z => z = pb) w1).setCell (g := pb) (j := 0) (fun _ => rfl) (.slice (some ad) 100 lc))).below B0.out.size (fun z hz q => by have e9 : z = pb := q; have := HPB.out; omega)))
      have E1 := hide e1
      clear e1
      go_wp2_with fail
      go_meet
      rw [E1.out]
      exact ⟨by simpa using FIN.out, KF.out⟩
    · have dN : decide (100 < (L.length : Int)) = false := by simp; omega
      have e1 := ELH.out
      rw [if_neg hN] at e1
      have E1 := hide e1
      clear e1
      go_wp2_with fail
      go_meet
      rw [E1.out]
      exact ⟨CP0.out, B0.out⟩
  case rest =>
    obtain ⟨cp, bw⟩ := hcut
    have CP1 := hide cp
    have B1 := hide bw
    clear cp bw CP0 B0 p0 pf0 ELH SLH HOKL
    obtain ⟨p1, pf1⟩ := CP1.out.get 1 _ rfl
    go_upto_if 24 with fail
    go_cut [28] (fun _ w' => Cells w' pb [.slice la L1.length lc, .slice da D1.length dc, .int .i64 next] ∧ Below w.heap.size w w')
    case first =>
      by_cases hN : 100 < D.length
      · have dN : decide (100 < (D.length : Int)) = true := by simp; omega
        obtain ⟨ad, rfl⟩ := SDH.out hN
        have e1 := EDH.out
        rw [if_pos hN] at e1
        have q : ∀ w, (Instr.slice 24 (.slice (some ad) D.length dc) none (some (.int .i64 100)) none).run Try.prog w = .ok (.slice (some ad) 100 dc) w := fun w => slice_to2 Try.underlying24 Try.sizeOf130 ad D.length dc 100 w (by omega) HOKD.out
        have FIN := hide (CP1.out.stored (j := 1) (by simp) (.slice (some ad) 100 dc))
        have KF := hide (B1.out.trans ((((Keep.refl (fun z => z = pb) wc).setCell (g := pb) (j := 1) (fun _ => rfl) (.slice (some ad) 100 dc))).below B1.out.size (fun z hz q => by have e9 : z = pb := q; have := HPB.out; omega)))
        have E1 := hide e1
        clear e1
        go_wp2_with fail
        go_meet
        rw [E1.out]
        exact ⟨by simpa using FIN.out, KF.out⟩
      · have dN : decide (100 < (D.length : Int)) = false := by simp; omega
        have e1 := EDH.out
        rw [if_neg hN] at e1
        have E1 := hide e1
        clear e1
        go_wp2_with fail
        go_meet
        rw [E1.out]
        exact ⟨CP1.out, B1.out⟩
    case rest =>
      obtain ⟨cp, bw⟩ := hcut
      obtain ⟨wx, hwx⟩ : ∃ x, x = wc := ⟨_, rfl⟩
      rw [← hwx] at cp bw ⊢
      have CPX := hide cp
      have BX := hide bw
      clear hwx cp bw CP1 B1 p1 pf1 EDH SDH HOKD
      obtain ⟨p0, -⟩ := CPX.out.get 0 _ rfl
      obtain ⟨p1, -⟩ := CPX.out.get 1 _ rfl
      obtain ⟨p2, -⟩ := CPX.out.get 2 _ rfl
      go_wp2_with fail
      refine (lent_any la da lc dc L1.length D1.length next (rowsC lvC L1) (rowsC dC D1) wx (LI.out.below BX.out) (DI.out.below BX.out) ⟨by rw [rowsC_len lvC 4 (fun _ => rfl)]; omega, NL.out, rows_one _, by omega⟩ ⟨by rw [rowsC_len dC 2 (fun _ => rfl)]; omega, ND.out, rows2_one _, by omega⟩).mono ?_
      unfold LentPost
      rintro e w2 ⟨gL, cL, gD, cD, rfl, oL, oD, hne, hh⟩
      have GLT := hide (World.ownsRow.lt oL gL rfl)
      have B2 := hide (BX.out.trans (hh.mono BX.out.size))
      have CP2 := hide (CPX.out.below hh)
      have OL2 := hide oL
      have OD2 := hide oD
      clear oL oD hh hne p0 p1 p2 CPX
      go_upto_region 6 with fail
      refine named (P := Code.wp _ _ _ _) ?_
      intro w3 hw3
      obtain ⟨ob, hob⟩ : ∃ b, b = w2.heap.size := ⟨_, rfl⟩
      have CO3 := hide (show Cells w3 ob [.slice (some ⟨gL, 0, none⟩) L1.length cL, .slice (some ⟨gD, 0, none⟩) D1.length cD, .int .i64 next] by rw [hw3, hob]; exact Cells.new w2 _ _)
      have H3 := hide (show Below w2.heap.size w2 w3 by rw [hw3]; exact alloc_below _ _)
      have GOB := hide (show gL < ob ∧ w.heap.size ≤ ob by rw [hob]; exact ⟨GLT.out.2, B2.out.size⟩)
      rw [← hob]
      clear hw3 hob
      have B3 := hide (B2.out.trans (H3.out.mono B2.out.size))
      have CP3 := hide (CP2.out.below H3.out)
      have OL3 := hide (GRow.below OL2.out H3.out)
      have OD3 := hide (GRow.below OD2.out H3.out)
      clear B2 CP2 OL2 OD2 H3
      obtain ⟨o0, -⟩ := CO3.out.get 0 _ rfl
      obtain ⟨o1, -⟩ := CO3.out.get 1 _ rfl
      obtain ⟨o2, -⟩ := CO3.out.get 2 _ rfl
      have FL3 := hide (show Lies w3 (some ⟨gL, 0, none⟩) (rowsC lvC L1) from (cap_le OL3.out).2.front)
      obtain ⟨R0, hR0⟩ : ∃ R0, R0 = loadOk L1 next := ⟨_, rfl⟩
      cases R0
      · have hR : loadOk L1 next = false := hR0.symm
        clear hR0
        have HR := hide hR
        clear hR
        go_wp2_with fail
        refine (load_no (some ⟨gL, 0, none⟩) cL (.slice (some ⟨gD, 0, none⟩) D1.length cD) next L1 w3 FL3.out (by omega) HR.out).mono ?_
        rintro e w4 ⟨rfl, hh⟩
        have B4 := hide (B3.out.trans (hh.mono B3.out.size))
        have CP4 := hide (CP3.out.below hh)
        have CO4 := hide (CO3.out.below hh)
        have OL4 := hide (GRow.below OL3.out hh)
        have OD4 := hide (GRow.below OD3.out hh)
        have S3 := hide CO3.out.1
        clear hh B3 CP3 CO3 OL3 OD3 o0 o1 o2 FL3
        obtain ⟨p0, -⟩ := CP4.out.get 0 _ rfl
        obtain ⟨p1, -⟩ := CP4.out.get 1 _ rfl
        obtain ⟨p2, -⟩ := CP4.out.get 2 _ rfl
        go_wp2_with fail
        refine (rload_no la lc da D1.length dc next L1 w4 (LI.out.below B4.out) HR.out).mono ?_
        rintro e w5 ⟨rfl, hh⟩
        have B5 := hide (B4.out.trans (hh.mono B4.out.size))
        have CP5 := hide (CP4.out.below hh)
        have CO5 := hide (CO4.out.below hh)
        have OL5 := hide (GRow.below OL4.out hh)
        have OD5 := hide (GRow.below OD4.out hh)
        have Z4 := hide CO4.out.1
        clear hh B4 CP4 CO4 OL4 OD4 p0 p1 p2
        obtain ⟨p0, -⟩ := CP5.out.get 0 _ rfl
        obtain ⟨p1, -⟩ := CP5.out.get 1 _ rfl
        obtain ⟨p2, -⟩ := CP5.out.get 2 _ rfl
        obtain ⟨o0, -⟩ := CO5.out.get 0 _ rfl
        obtain ⟨o1, -⟩ := CO5.out.get 1 _ rfl
        obtain ⟨o2, -⟩ := CO5.out.get 2 _ rfl
        go_wp2_with fail
        refine (kept_any gL cL gD cD _ la da lc dc next next L1 D1 w5 OL5.out OD5.out (LI.out.below B5.out) (DI.out.below B5.out) (by omega) (by omega)).mono ?_
        rintro e w6 ⟨rfl, hh⟩
        have B6 := hide (B5.out.trans (hh.mono B5.out.size))
        have CO6 := hide (CO5.out.below hh)
        have OL6 := hide (show GRow w6 wx.heap.size 26 4 (.slice (some ⟨gL, 0, none⟩) (L1.length + 1) cL) (L1.length + 1) (rowsC lvC (L1 ++ [⟨23130, 0, false, false⟩])) by
          have := GRow.below OL5.out hh
          rw [show rowsC lvC (L1 ++ [⟨23130, 0, false, false⟩]) = rowsC lvC L1 ++ [.int .i64 23130, .int .i64 0, .bool false, .bool false] by simp [rowsC, lvC]]
          exact this)
        clear hh B5 CP5 CO5 OL5 OD5 p0 p1 p2 o0 o1 o2
        go_wp2_with fail
        go_loopw [12] (fun vi wr => ∃ k : Nat, vi = .int .i64 (k : Int) ∧ k ≤ L1.length ∧ GRow wr wx.heap.size 26 4 (.slice (some ⟨gL, 0, none⟩) (L1.length + 1) cL) (L1.length + 1) (rowsC lvC (filledL (L1 ++ [⟨23130, 0, false, false⟩]) ⟨77, 77, false, false⟩ k)) ∧ Keep (fun z => z = gL) w6 wr ∧ Cells wr ob [.slice (some ⟨gL, 0, none⟩) L1.length cL, .slice (some ⟨gD, 0, none⟩) D1.length cD, .int .i64 next]) (fun vi _ => L1.length - (intOf vi).toNat)
        case atStart => exact ⟨0, rfl, Nat.zero_le _, by simpa [filledL] using OL6.out, Keep.refl _ _, CO6.out⟩
        case round =>
          obtain ⟨k, rfl, hk, o1, kp, mc⟩ := hrel
          have O1 := hide o1
          have K1 := hide kp
          have M1 := hide mc
          obtain ⟨m0, -⟩ := mc.get 0 _ rfl
          clear o1 kp mc
          by_cases hlt : k < L1.length
          · have hlf : (filledL (L1 ++ [⟨23130, 0, false, false⟩]) (⟨77, 77, false, false⟩ : Lv) k).length = L1.length + 1 := by rw [filled_len (by simp; omega)]; simp
            obtain ⟨a9, c9, e9, l9, -⟩ := GRow.lies O1.out
            cases e9
            obtain ⟨x, p0, p1, p2, p3⟩ := lies_at4 l9 (k := k) (by rw [hlf]; omega)
            have hf := row_frozen O1.out
            have fr0 := hf (k * 4)
            have fr1 := hf (k * 4 + 1)
            have fr2 := hf (k * 4 + 2)
            have fr3 := hf (k * 4 + 3)
            have OF := hide (row_set4 O1.out (r := k) (by rw [hlf]; omega) (⟨77, 77, false, false⟩ : Lv))
            have MF := hide (((((Keep.refl (fun z => z = gL) wr).setCell (g := gL) (j := k * 4) (fun _ => rfl) (.int .i64 77)).setCell (g := gL) (j := k * 4 + 1) (fun _ => rfl) (.int .i64 77)).setCell (g := gL) (j := k * 4 + 2) (fun _ => rfl) (.bool false)).setCell (g := gL) (j := k * 4 + 3) (fun _ => rfl) (.bool false))
            clear l9 hlf hf
            go_wp2_with fail
            go_roundw
            case rel =>
              have OG := OF.out
              rw [filled_step (by simp; omega)] at OG
              exact ⟨k + 1, by go_num, by omega, OG, K1.out.trans MF.out (fun _ _ q => q), M1.out.keep MF.out (fun q => by have e9 : ob = gL := q; have := GOB.out; omega)⟩
            case measure => simp [intOf]; omega
          · have B7 := hide (show Below w.heap.size w wr from B6.out.trans (K1.out.below B6.out.size (fun z hz q => by have e9 : z = gL := q; have := GLT.out; have := BX.out.size; omega)))
            clear K1 M1 O1
            go_wp2_with fail
            refine (begins_no T.t i 23 wr).mono ?_
            rintro e w8 ⟨rfl, rfl⟩
            go_wp2_with fail
            go_ret
            exact stayPost HT.out HQ.out B7.out
      · have hR : loadOk L1 next = true := hR0.symm
        clear hR0
        have HR := hide hR
        clear hR
        go_wp2_with fail
        refine (load_yes (some ⟨gL, 0, none⟩) cL (.slice (some ⟨gD, 0, none⟩) D1.length cD) next L1 w3 FL3.out (by omega) HR.out).mono ?_
        rintro e w4 ⟨b, m, rfl, pt, hb1, hb2, hh⟩
        have B4 := hide (B3.out.trans (hh.mono B3.out.size))
        have CP4 := hide (CP3.out.below hh)
        have CO4 := hide (CO3.out.below hh)
        have OL4 := hide (GRow.below OL3.out hh)
        have OD4 := hide (GRow.below OD3.out hh)
        have P4 := hide pt
        have BM := hide (show w3.heap.size ≤ b ∧ w3.heap.size ≤ m from ⟨hb1, hb2⟩)
        clear pt hb1 hb2
        have S3 := hide CO3.out.1
        clear hh B3 CP3 CO3 OL3 OD3 o0 o1 o2 FL3
        obtain ⟨p0, -⟩ := CP4.out.get 0 _ rfl
        obtain ⟨p1, -⟩ := CP4.out.get 1 _ rfl
        obtain ⟨p2, -⟩ := CP4.out.get 2 _ rfl
        go_wp2_with fail
        refine (rload_yes la lc da D1.length dc next L1 w4 (LI.out.below B4.out) NL.out HR.out).mono ?_
        rintro e w5 ⟨c, v, rfl, rt, hh⟩
        have Z4B := hide B4.out.size
        have B5 := hide (B4.out.trans (hh.mono B4.out.size))
        have CP5 := hide (CP4.out.below hh)
        have CO5 := hide (CO4.out.below hh)
        have OL5 := hide (GRow.below OL4.out hh)
        have OD5 := hide (GRow.below OD4.out hh)
        have P5 := hide (P4.out.below hh)
        have R5 := hide rt
        have S4 := hide P4.out.lt
        clear rt P4
        have Z4 := hide CO4.out.1
        clear hh B4 CP4 CO4 OL4 OD4 p0 p1 p2
        obtain ⟨p0, -⟩ := CP5.out.get 0 _ rfl
        obtain ⟨p1, -⟩ := CP5.out.get 1 _ rfl
        obtain ⟨p2, -⟩ := CP5.out.get 2 _ rfl
        obtain ⟨o0, -⟩ := CO5.out.get 0 _ rfl
        obtain ⟨o1, -⟩ := CO5.out.get 1 _ rfl
        obtain ⟨o2, -⟩ := CO5.out.get 2 _ rfl
        go_wp2_with fail
        refine (kept_any gL cL gD cD _ la da lc dc next next L1 D1 w5 OL5.out OD5.out (LI.out.below B5.out) (DI.out.below B5.out) (by omega) (by omega)).mono ?_
        rintro e w6 ⟨rfl, hh⟩
        have B6 := hide (B5.out.trans (hh.mono B5.out.size))
        have CO6 := hide (CO5.out.below hh)
        have OL6 := hide (show GRow w6 wx.heap.size 26 4 (.slice (some ⟨gL, 0, none⟩) (L1.length + 1) cL) (L1.length + 1) (rowsC lvC (L1 ++ [⟨23130, 0, false, false⟩])) by
          have := GRow.below OL5.out hh
          rw [show rowsC lvC (L1 ++ [⟨23130, 0, false, false⟩]) = rowsC lvC L1 ++ [.int .i64 23130, .int .i64 0, .bool false, .bool false] by simp [rowsC, lvC]]
          exact this)
        have P6 := hide (P5.out.below hh)
        have R6 := hide (R5.out.below hh)
        have Z5 := hide R5.out.lt
        clear P5 R5
        clear hh B5 CP5 CO5 OL5 OD5 p0 p1 p2 o0 o1 o2
        go_wp2_with fail
        go_loopw [12] (fun vi wr => ∃ k : Nat, vi = .int .i64 (k : Int) ∧ k ≤ L1.length ∧ GRow wr wx.heap.size 26 4 (.slice (some ⟨gL, 0, none⟩) (L1.length + 1) cL) (L1.length + 1) (rowsC lvC (filledL (L1 ++ [⟨23130, 0, false, false⟩]) ⟨77, 77, false, false⟩ k)) ∧ Keep (fun z => z = gL) w6 wr ∧ Cells wr ob [.slice (some ⟨gL, 0, none⟩) L1.length cL, .slice (some ⟨gD, 0, none⟩) D1.length cD, .int .i64 next]) (fun vi _ => L1.length - (intOf vi).toNat)
        case atStart => exact ⟨0, rfl, Nat.zero_le _, by simpa [filledL] using OL6.out, Keep.refl _ _, CO6.out⟩
        case round =>
          obtain ⟨k, rfl, hk, o1, kp, mc⟩ := hrel
          have O1 := hide o1
          have K1 := hide kp
          have M1 := hide mc
          obtain ⟨m0, -⟩ := mc.get 0 _ rfl
          clear o1 kp mc
          by_cases hlt : k < L1.length
          · have hlf : (filledL (L1 ++ [⟨23130, 0, false, false⟩]) (⟨77, 77, false, false⟩ : Lv) k).length = L1.length + 1 := by rw [filled_len (by simp; omega)]; simp
            obtain ⟨a9, c9, e9, l9, -⟩ := GRow.lies O1.out
            cases e9
            obtain ⟨x, p0, p1, p2, p3⟩ := lies_at4 l9 (k := k) (by rw [hlf]; omega)
            have hf := row_frozen O1.out
            have fr0 := hf (k * 4)
            have fr1 := hf (k * 4 + 1)
            have fr2 := hf (k * 4 + 2)
            have fr3 := hf (k * 4 + 3)
            have OF := hide (row_set4 O1.out (r := k) (by rw [hlf]; omega) (⟨77, 77, false, false⟩ : Lv))
            have MF := hide (((((Keep.refl (fun z => z = gL) wr).setCell (g := gL) (j := k * 4) (fun _ => rfl) (.int .i64 77)).setCell (g := gL) (j := k * 4 + 1) (fun _ => rfl) (.int .i64 77)).setCell (g := gL) (j := k * 4 + 2) (fun _ => rfl) (.bool false)).setCell (g := gL) (j := k * 4 + 3) (fun _ => rfl) (.bool false))
            clear l9 hlf hf
            go_wp2_with fail
            go_roundw
            case rel =>
              have OG := OF.out
              rw [filled_step (by simp; omega)] at OG
              exact ⟨k + 1, by go_num, by omega, OG, K1.out.trans MF.out (fun _ _ q => q), M1.out.keep MF.out (fun q => by have e9 : ob = gL := q; have := GOB.out; omega)⟩
            case measure => simp [intOf]; omega
          · have B7 := hide (show Below w.heap.size w wr from B6.out.trans (K1.out.below B6.out.size (fun z hz q => by have e9 : z = gL := q; have := GLT.out; have := BX.out.size; omega)))
            have GG := hide (show gL < b ∧ gL < m ∧ b < c ∧ m < c ∧ (∀ g, v.ownBlock = some g → b < g ∧ m < g) by
              have := GOB.out
              have := BM.out
              have s3 := S3.out
              have s4 := S4.out
              have lo := R6.out.low
              refine ⟨by omega, by omega, by omega, by omega, fun g hg => ?_⟩
              have := (World.ownsRow.lt R6.out.row g hg).1
              omega)
            have P7 := hide (P6.out.keep K1.out (fun q => by have e9 : b = gL := q; have := GG.out; omega) (fun q => by have e9 : m = gL := q; have := GG.out; omega))
            have R7 := hide ((R6.out.keep K1.out (fun q => by have e9 : c = gL := q; have := GG.out; omega) (fun g hg q => by have e9 : g = gL := q; have := GG.out.2.2.2.2 g hg; have := GG.out; omega)).mono (B' := w.heap.size) Z4B.out)
            have BXB := hide (HT.out.below B7.out).box
            have WB := hide (show w.heap.size ≤ b ∧ w.heap.size ≤ m by have := BM.out; have := GOB.out; have := S3.out; omega)
            clear P6 R6 K1 M1 O1
            go_wp2_with fail
            refine (begins_yes T.t i b c _ wr BXB.out rfl hi).mono ?_
            rintro e w8 ⟨rfl, hw8⟩
            have H8 := hide hw8
            clear hw8
            go_wp2_with fail
            go_ret
            exact begunPost HT.out HQ.out hi B7.out P7.out R7.out WB.out ⟨by have := GG.out; omega, by have := GG.out; omega, fun g hg => by have := GG.out.2.2.2.2 g hg; omega⟩ H8.out
end Go.Proofs.Ytokcocmenndlmaa
