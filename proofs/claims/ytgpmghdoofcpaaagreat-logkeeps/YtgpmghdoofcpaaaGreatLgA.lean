import Derived.Test.YtgpmghdoofcpaaaGreatLg17
namespace Go.Proofs.YtgpmghdoofcpaaaGreat.Lg
open Go.RowKit Go.QK
open Dv (hide bnext alloc_below load_arr store_arr slice_arr wp_load_arr wp_store_arr neq_arr info91)

/-- A log and its disk that were made behind B. -/
structure LV (B : Nat) (w0 w : World) (S T : Nat → Prop) (l d : Nat) (g : Dev) (m : LogM) : Prop where
  ld : LD w S T l d g m
  fS : ∀ b, S b → B ≤ b
  fT : ∀ b, T b → B ≤ b
  fl : B ≤ l
  bel : Below B w0 w
  le : B ≤ w0.heap.size
section
variable {B : Nat} {w0 w w' : World} {S S' T T' : Nat → Prop} {l d : Nat} {g g' : Dev} {m m' : LogM}
theorem LV.below (h : LV B w0 w S T l d g m) (hb : Below w.heap.size w w') : LV B w0 w' S T l d g m := ⟨h.ld.below hb, h.fS, h.fT, h.fl, bnext h.bel hb h.le, h.le⟩
theorem LV.app (h : LV B w0 w S T l d g m) (hl : LD w' S T' l d g m') (hk : Keep (fun k => k = l ∨ T k) w w') (hT : ∀ k, T' k → T k ∨ w.heap.size ≤ k) : LV B w0 w' S T' l d g m' := by
  have hB := Nat.le_trans h.le h.bel.size
  exact ⟨hl, h.fS, fun b hb => (hT b hb).elim (h.fT b) (fun q => Nat.le_trans hB q), h.fl, h.bel.trans (hk.below hB (fun j hj q => by rcases q with q | q; have := h.fl; omega; have := h.fT j q; omega)), h.le⟩
theorem LV.dsk (h : LV B w0 w S T l d g m) (hl : LD w' S' T l d g' m') (hk : Keep (fun b => S b ∨ b = l) w w') (hS : ∀ k, S' k → S k ∨ w.heap.size ≤ k) : LV B w0 w' S' T l d g' m' := by
  have hB := Nat.le_trans h.le h.bel.size
  exact ⟨hl, fun b hb => (hS b hb).elim (h.fS b) (fun q => Nat.le_trans hB q), h.fT, h.fl, h.bel.trans (hk.below hB (fun j hj q => by rcases q with q | q; have := h.fS j q; omega; have := h.fl; omega)), h.le⟩
theorem LV.open_ (hw : Below B w0 w) (hle : B ≤ w0.heap.size) (hS0 : ∀ b, S b → B ≤ b) (hl : LD w' S' T l d g m) (hk : Keep S w w') (hS : ∀ k, S' k → S k ∨ w.heap.size ≤ k) (hll : w.heap.size ≤ l) (hT : ∀ k, T k → w.heap.size ≤ k) : LV B w0 w' S' T l d g m := by
  have hB := Nat.le_trans hle hw.size
  exact ⟨hl, fun b hb => (hS b hb).elim (hS0 b) (fun q => Nat.le_trans hB q), fun b hb => Nat.le_trans hB (hT b hb), Nat.le_trans hB hll, hw.trans (hk.below hB (fun j hj q => by have := hS0 j q; omega)), hle⟩
end
def ag0 : Dev := Dev.new 8
def am0 : LogM := ⟨2, 6, [], 0, false⟩
def ar1 : RecM := ⟨0, 1, 1, 0, 0, 0, 0, 0, 0, 0, 0, 0, 0, 0, [], [], 0⟩
def am1 : LogM := ⟨2, 6, [[1, 1]], 0, false⟩
def ag1 : Dev := openD ag0 2 6
def ag2 : Dev := am1.forD ag1 1
def am2 : LogM := ⟨2, 6, [[1, 1]], 1, false⟩
theorem aw_open : openE ag0 2 6 = 0 ∧ openR ag0 2 6 = [] := by decide +kernel
theorem aw_openD : ag0.n = 8 ∧ ag0.pend.length ≤ 800000 ∧ ag0.calls ≤ 800000 ∧ ag1.calls = 0 ∧ ag1.pend.length ≤ 800000 := by decide +kernel
theorem aw_app : am0.appE ar1 = 0 ∧ bytesR (wl 1 ar1) = [1, 1] := by decide +kernel
theorem aw_for : am1.forE ag1 1 = 0 ∧ ag2.calls = 2 ∧ ag2.pend = [] ∧ (ag2.reach 2) = 0 ∧ (ag2.content 2).length = 512 ∧ (ag2.content 2).getD 0 0 = 108 ∧ (ag2.content 2).getD 511 0 = 165 := by decide +kernel
theorem aw_get : am2.getE 1 = 0 ∧ (am2.getR 1).tx = 1 ∧ (am2.getR 1).lsn = 1 := by decide +kernel
theorem aw_zero : am2.appE zeroR = 70 := by decide +kernel
theorem aw_forM : am1.forM ag1 1 = am2 := by
  have h : wpE (wrM am1 (1 : Int).toNat ag1) = 0 := by decide +kernel
  unfold LogM.forM
  rw [if_neg (by decide), if_neg (by decide), if_neg (by decide), if_pos h]
  rfl
theorem aw_appM : am0.appM ar1 = am1 := by
  unfold LogM.appM
  rw [if_pos aw_app.1, show wl (am0.recs.length + 1) ar1 = wl 1 ar1 from rfl, aw_app.2]
  rfl
theorem aw_appN : am0.appN ar1 = 1 := by
  unfold LogM.appN
  rw [if_pos aw_app.1]
  rfl
theorem fits0 : Fits zeroR ∧ Fits ar1 := by
  constructor <;> (unfold Fits; decide)
theorem am0_ok : am0.Ok := ⟨by decide, by decide, by decide⟩
theorem am1_ok : am1.Ok := ⟨by decide, by decide, by decide⟩
theorem am2_ok : am2.Ok := ⟨by decide, by decide, by decide⟩

set_option maxRecDepth 100000 in
set_option maxHeartbeats 4000000 in
theorem awake_any (w : World) : Calls Tryz.prog 9 #[] w fun e w' => e = .returned (.bool true) ∧ Below w.heap.size w w' := by
  obtain ⟨o1, o2⟩ := aw_open
  obtain ⟨d1, d2, d3, d4, d5⟩ := aw_openD
  obtain ⟨x1, x2, x3, x4, x5, x6, x7⟩ := aw_for
  obtain ⟨y1, y2, y3⟩ := aw_get
  have a1 := aw_app.1
  have az := aw_zero
  have HO1 := hide o1
  have HO2 := hide o2
  have NM := fun e w => num_any e w
  clear o1 o2
  go_enter Tryz.func9, Tryz.ntmps9
  go_wp2_with fail
  refine (Dv.new_ok 8 w (by decide) (by decide)).mono ?_
  rintro e w1 ⟨d, S1, rfl, D1, f1, b1⟩
  have P1 := hide (show PDev w1 S1 d ag0 from D1)
  have F1 := hide f1
  have B1 := hide b1
  clear D1 f1 b1
  go_wp2_with fail
  refine (NM 0 w1).mono ?_
  rintro e w2 ⟨rfl, rfl⟩
  have KO := hide (open_any P1.out 2 6 (by decide) (by rw [d1]; decide) d2 d3)
  go_wp2_with fail
  refine KO.out.mono ?_
  rintro e w3 ⟨S3, p3, k3, n3, h3⟩
  rcases h3 with ⟨he, l, T3, rfl, ld3, hl3, hT3⟩ | ⟨he, _⟩
  · have L3 := hide (LV.open_ (B := w.heap.size) (w0 := w) B1.out (Nat.le_refl _) F1.out (show LD w3 S3 T3 l d ag1 am0 by rw [HO2.out] at ld3; exact ld3) k3 n3 hl3 hT3)
    clear KO p3 k3 n3 he ld3 hl3 hT3 P1 F1 B1 HO1 HO2
    have KF := hide (free_any L3.out.ld am0_ok)
    have e6 : am0.count - am0.recs.length = 6 := by decide
    rw [e6] at KF
    go_wp2_with fail
    refine KF.out.mono ?_
    rintro e w4 ⟨rfl, b4⟩
    have L4 := hide (L3.out.below b4)
    have KL := hide (lastL_any L4.out.ld)
    have hz0 : ((am0.recs.length : Nat) : Int) = 0 := rfl
    rw [hz0] at KL
    clear KF L3 b4 hz0
    go_wp2_with fail
    refine KL.out.mono ?_
    rintro e w5 ⟨rfl, rfl⟩
    have KA := hide (append_any L4.out.ld am0_ok ar1 none none 0 0 (.inl rfl) (.inl rfl) fits0.2)
    rw [aw_appN, a1, aw_appM] at KA
    unfold recC ar1 at KA
    clear KL
    go_wp2_with fail
    refine KA.out.mono ?_
    rintro e w6 ⟨T6, rfl, ld6, k6, n6⟩
    have L6 := hide (L4.out.app ld6 k6 n6)
    have KF := hide (forced_any L6.out.ld)
    have hz1 : ((am1.forced : Nat) : Int) = 0 := rfl
    rw [hz1] at KF
    clear hz1
    have KC := hide (Dv.calls_any L6.out.ld.dev)
    rw [d4] at KC
    have KFO := hide (force_any L6.out.ld am1_ok 1 (by decide) d5 (by rw [d4]; decide))
    clear KA L4 ld6 k6 n6
    go_wp2_with fail
    refine (NM 0 w6).mono ?_
    rintro e w7 ⟨rfl, rfl⟩
    go_wp2_with fail
    refine KF.out.mono ?_
    rintro e w8 ⟨rfl, rfl⟩
    go_wp2_with fail
    refine KC.out.mono ?_
    rintro e w9 ⟨rfl, rfl⟩
    go_wp2_with fail
    refine KFO.out.mono ?_
    rintro e w10 ⟨S10, v10, rfl, hv, ld10, k10, n10⟩
    rcases hv with ⟨_, rfl⟩ | ⟨hv, _⟩
    · rw [aw_forM] at ld10
      have L10 := hide (L6.out.dsk (show LD w10 S10 T6 l d ag2 am2 from ld10) k10 n10)
      have KF := hide (forced_any L10.out.ld)
      have hz1 : ((am2.forced : Nat) : Int) = 1 := rfl
      rw [hz1] at KF
      clear hz1
      have KC := hide (Dv.calls_any L10.out.ld.dev)
      rw [x2] at KC
      have KG := hide (get_any L10.out.ld am2_ok 1 (by decide))
      rw [y1] at KG
      clear L6 ld10 k10 n10
      go_wp2_with fail
      refine KF.out.mono ?_
      rintro e w11 ⟨rfl, rfl⟩
      go_wp2_with fail
      refine KC.out.mono ?_
      rintro e w12 ⟨rfl, rfl⟩
      clear KF KC
      go_wp2_with fail
      refine KG.out.mono ?_
      rintro e w13 ⟨v13, rfl, o13, b13⟩
      obtain ⟨la, da, lc, dc, rfl, -, -, -⟩ := o13
      have L13 := hide (L10.out.below b13)
      have ht : (am2.getR 1).tx = 1 := y2
      have hs : (am2.getR 1).lsn = 1 := y3
      generalize am2.getR 1 = rr at *
      obtain ⟨q0, q1, q2, q3, q4, q5, q6, q7, q8, q9, q10, q11, q12, q13, q14, q15, q16⟩ := rr
      simp only at ht hs
      subst ht hs
      simp only [recC] at *
      clear KG L10 b13 y2 y3
      go_upto_region 11 with (refine wpList_store36 (RBox.new _ _ _) rfl rfl rfl rfl rfl ?_; intro w14 R14 hk14)
      have L14 := hide (L13.out.below (newBox hk14))
      have R14 := hide R14
      have KR := hide (Dv.read_any L14.out.ld.dev 2 (by rw [x3]; simp))
      have hrb : ag2.readB 2 = ag2.content 2 := by unfold Dev.readB; rw [if_pos x4]; rfl
      rw [x4, hrb] at KR
      have hlt13 := L13.out.ld.lt
      have HB3 := hide (show ¬ (w13.heap.size = l ∨ T6 w13.heap.size) from fun q => by
        rcases q with q | q
        · have := hlt13.1; omega
        · have := hlt13.2.2 _ q; omega)
      clear L13 hk14 hlt13
      generalize w13.heap.size = b3 at *
      go_wp2_with fail
      refine KR.out.mono ?_
      rintro e w15 ⟨v15, rfl, o15, b15⟩
      obtain ⟨gb, cap, rfl, hcap, _, hgb⟩ := o15.form (by rw [ints_length, x5]; omega)
      have sn := hide o15.seen_at
      have L15 := hide (L14.out.below b15)
      have R15 := hide (R14.out.below b15)
      rw [ints_length, x5] at hcap ⊢
      have KA := hide (append_any L15.out.ld am2_ok zeroR none none 0 0 (.inl rfl) (.inl rfl) fits0.1)
      have ezn : am2.appN zeroR = 0 := by unfold LogM.appN; rw [az]; rfl
      have ezm : am2.appM zeroR = am2 := by unfold LogM.appM; rw [az]; rfl
      rw [ezn, az, ezm] at KA
      unfold recC zeroR at KA
      have hlt15 : gb < w15.heap.size := (World.ownsRow.lt o15 gb rfl).2
      have hgb2 : Hid (w14.heap.size ≤ gb) := (World.ownsRow.lt o15 gb rfl).1
      have hlt14 := L14.out.ld.lt
      have HL14 := hide hlt14
      clear KR L14 R14 o15 b15 hlt14
      go_wp2_with fail
      refine KA.out.mono ?_
      rintro e w16 ⟨T16, rfl, ld16, k16, n16⟩
      have L16 := hide (L15.out.app ld16 k16 n16)
      have hnb : ¬ ((fun k => k = l ∨ T6 k) gb) := fun q => by
        have h1 := HL14.out
        have h2 := hgb2.out
        rcases q with q | q
        · have := h1.1; omega
        · have := h1.2.2 gb q; omega
      have sn16 := Seen.keep sn.out k16 (fun ad had => by cases had; exact hnb)
      obtain ⟨b0, of0, e0, hb0, c0⟩ := Bytes.at sn16 (i := 0) (by rw [x5]; omega)
      cases e0
      obtain ⟨b1, of1, e1, hb1, c1⟩ := Bytes.at sn16 (i := 511) (by rw [x5]; omega)
      cases e1
      rw [x6] at c0
      rw [x7] at c1
      have R16 := R15.out.keep k16 HB3.out
      obtain ⟨r0, _⟩ := R16.cells.get 0 _ rfl
      obtain ⟨r2, _⟩ := R16.cells.get 2 _ rfl
      have KF := hide (free_any L16.out.ld am2_ok)
      have e5 : am2.count - am2.recs.length = 5 := by decide
      rw [e5] at KF
      have KE := fun w' (hb : Below w16.heap.size w16 w') => err_any (L16.out.below hb).ld
      have KE := hide KE
      clear KA L15 ld16 k16 n16 sn sn16 R15 R16 hb0 hb1 hnb KFO x1 x2 x3 x4 x5 x6 x7 d1 d2 d3 d4 d5 y1 a1 az hcap
      go_wp2_with fail
      refine (NM 0 w16).mono ?_
      rintro e w17 ⟨rfl, rfl⟩
      go_wp2_with fail
      refine (NM 0 w17).mono ?_
      rintro e w18 ⟨rfl, rfl⟩
      go_wp2_with fail
      refine (NM 70 w18).mono ?_
      rintro e w19 ⟨rfl, rfl⟩
      go_wp2_with fail
      refine KF.out.mono ?_
      rintro e w20 ⟨rfl, b20⟩
      have K20 := hide (KE.out w20 b20)
      have L20 := hide (L16.out.below b20)
      clear KF KE L16 b20
      go_wp2_with fail
      refine K20.out.mono ?_
      rintro e w21 ⟨v21, rfl, e21, b21⟩
      rcases e21 with ⟨_, rfl⟩ | ⟨q, _⟩
      · have B21 := hide (L20.out.below b21).bel
        clear K20 L20 b21
        go_wp2_with fail
        go_ret
        exact ⟨rfl, B21.out⟩
      · exact absurd q (by decide)
    · exact absurd x1 hv
  · exact absurd HO1.out he
end Go.Proofs.YtgpmghdoofcpaaaGreat.Lg
