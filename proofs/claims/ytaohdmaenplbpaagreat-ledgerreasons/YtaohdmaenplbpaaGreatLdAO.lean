import Derived.Test.YtaohdmaenplbpaaGreatLdAM
set_option linter.all false
namespace Go.Proofs.YtaohdmaenplbpaaGreat
open Go.RowKit Go.QK Quota Go.Maps Go.QM
set_option maxRecDepth 100000
/-! LedgerReasons. -/
theorem gS_set (F : Esc → Int) (g : Int) {es : List SE} {i : Nat} (hi : i < es.length) (y : SE) (hy : y.grp = es[i].grp) : gS F g (es.set i y) = gS F g es + (if y.grp = g then F y.e - F es[i].e else 0) := by
  induction es generalizing i with
  | nil => simp at hi
  | cons x r ih =>
    cases i with
    | zero =>
      simp only [List.set_cons_zero, List.getElem_cons_zero, gS] at hy ⊢
      rw [hy]
      split <;> omega
    | succ i =>
      have hi' : i < r.length := by simpa using hi
      have q := ih hi' (by simpa using hy)
      simp only [List.set_cons_succ, List.getElem_cons_succ, gS] at q ⊢
      omega
theorem may_fits {es : List SE} (hu : Up (ctrsOf es)) {t d : Int} (ht : 1 ≤ t ∧ t ≤ 6) {i : Nat} (hi : i < es.length) (ok : es[i].e.Ok) (h0 : mayE es[i].e t d = 0) : mayL (ctrsOf es) t es[i].id d = if (fitB (lowG (ctrsOf (es.set i (es[i].turn (addN es[i].e t d)))) es[i].grp) && fitB (highG (ctrsOf (es.set i (es[i].turn (addN es[i].e t d)))) es[i].grp)) = true then 0 else 10 := by
  have e0 : (es[i].turn (addN es[i].e t d)).grp = es[i].grp := rfl
  have q1 := gS_set Esc.low es[i].grp hi (es[i].turn (addN es[i].e t d)) e0
  have q2 := gS_set Esc.high es[i].grp hi (es[i].turn (addN es[i].e t d)) e0
  rw [if_pos e0] at q1 q2
  obtain ⟨a1, a2⟩ := addN_low ok h0
  have b1 : (es[i].turn (addN es[i].e t d)).e.low = mLow es[i].e t d := a1
  have b2 : (es[i].turn (addN es[i].e t d)).e.high = mHigh es[i].e t d := a2
  obtain ⟨-, u1, u2⟩ := sum_three (es := es.set i (es[i].turn (addN es[i].e t d))) es[i].grp
  obtain ⟨-, v1, v2⟩ := sum_three (es := es) es[i].grp
  have w1 : lowG (ctrsOf (es.set i (es[i].turn (addN es[i].e t d)))) es[i].grp = lowG (ctrsOf es) es[i].grp + mLow es[i].e t d - es[i].e.low := by
    rw [← u1, q1, v1, b1]; omega
  have w2 : highG (ctrsOf (es.set i (es[i].turn (addN es[i].e t d)))) es[i].grp = highG (ctrsOf es) es[i].grp + mHigh es[i].e t d - es[i].e.high := by
    rw [← u2, q2, v2, b2]; omega
  rw [w1, w2]
  unfold mayL
  rw [if_neg (by omega), getM_ctrs hu (List.getElem_mem hi)]
  simp only
  rw [if_pos h0]
theorem new_fits {es : List SE} {H : Helds} (ok : SOk es H) {g lo hi v : Int} (hg : 1 ≤ g ∧ g ≤ 3) (hE : newE lo hi v = 0) : newL (ctrsOf es) 9 g lo hi v = if (fitB (lowG (ctrsOf es) g + v) && fitB (highG (ctrsOf es) g + v)) = true then 0 else 10 := by
  have hn : hasM (ctrsOf es) 9 = false := by
    rw [hasM_get, getM_none (fun q hq => by
      obtain ⟨x, hx, rfl⟩ := List.mem_map.1 hq
      have := (ok.ids x hx).1
      simp only [SE.ctr]
      omega)]
    rfl
  unfold newL
  rw [if_neg (by omega), hn, hE]
  simp only [Bool.false_eq_true, if_false, if_true]
theorem low_Bd {es : List SE} {H : Helds} (ok : SOk es H) (eok : ∀ x ∈ es, x.e.Ok) (g : Int) : Bd (lowG (ctrsOf es) g) ∧ Bd (highG (ctrsOf es) g) := by
  have f := ok.few
  have a := gS_in (F := Esc.low) (g := g) (es := es) (fun x hx => (eok x hx).rng.1)
  have b := gS_in (F := Esc.high) (g := g) (es := es) (fun x hx => (eok x hx).rng.2.1)
  rw [(sum_three (es := es) g).2.1] at a
  rw [(sum_three (es := es) g).2.2] at b
  unfold Bd
  constructor <;> omega
set_option maxHeartbeats 20000000 in
theorem law_reasons (rs : List Rm) (ra : Option Addr) (nR rc : Nat) (ds : List Dd) (da : Option Addr) (nD dc : Nat) (kd tx ct d : Int) (grp lo hi v : Int) (w : World) (hr : Lies w ra (rowsC rmC rs)) (hn : nR = rs.length) (hin : ∀ x ∈ rs, x.In) (hmax : nR ≤ 9223372036854775807) (hd : Lies w da (rowsC ddC ds)) (hdn : nD = ds.length) (hdi : ∀ x ∈ ds, I64 x.d) (hdd : I64 d) (hrm : Rm.In ⟨grp, lo, hi, v⟩) : Calls Tryz.prog 4 #[.slice ra nR rc, .slice da nD dc, .agg #[.int .i64 kd, .int .i64 tx, .int .i64 ct, .int .i64 d], .agg #[.int .i64 grp, .int .i64 lo, .int .i64 hi, .int .i64 v]] w fun r w' => r = .returned (.bool true) ∧ Below w.heap.size w w' := by
  have KB := hide (fun (wz : World) (h : Below w.heap.size w wz) => begun_any rs ra nR rc wz (hr.below h) hn hin hmax)
  have KF := hide (fun w' => first_any w')
  have HD := hide hd
  have HN := hide hdn
  have HI := hide hdi
  have HDD := hide hdd
  obtain ⟨I1, I2, I3⟩ := room_in hrm
  have RN := hide (room_new lo hi v)
  have KC := hide (fun wz => counterOf_any grp lo hi v 8 wz (by omega) (by omega))
  simp only at I1 I2 I3
  obtain ⟨L, hL⟩ : ∃ z, z = roomLo lo hi := ⟨_, rfl⟩
  obtain ⟨U, hU⟩ : ∃ z, z = roomHi lo hi := ⟨_, rfl⟩
  obtain ⟨V, hV⟩ : ∃ z, z = roomV lo hi v := ⟨_, rfl⟩
  rw [← hL] at I1 KC RN
  rw [← hU] at I2 KC RN
  rw [← hV] at I3 KC RN
  obtain ⟨gg, hgg⟩ : ∃ z, z = 1 + grp % 3 := ⟨_, rfl⟩
  have GG := hide (show 1 ≤ gg ∧ gg ≤ 3 by omega)
  rw [← hgg] at KC
  clear hr hn hin hmax hd hdn hdi hL hU hV hgg hrm hdd
  go_enter Tryz.func4, Tryz.ntmps4
  go_upto_region 1 with fail
  refine named (P := Code.wp _ _ _ _) ?_
  intro wb hwb
  obtain ⟨db, hdb⟩ : ∃ z, z = w.heap.size := ⟨_, rfl⟩
  have DC := hide (show Cells wb db [.int .i64 kd, .int .i64 tx, .int .i64 ct, .int .i64 d] by rw [hwb, hdb]; exact (Cells.new w #[.int .i64 kd, .int .i64 tx, .int .i64 ct, .int .i64 d] 30).below (alloc_below _ _))
  have MC := hide (show Cells wb (db + 1) [.int .i64 grp, .int .i64 lo, .int .i64 hi, .int .i64 v] by
    rw [hwb, hdb]
    have := Cells.new (w.alloc (.cells #[.int .i64 kd, .int .i64 tx, .int .i64 ct, .int .i64 d] 30)) #[.int .i64 grp, .int .i64 lo, .int .i64 hi, .int .i64 v] 56
    simpa using this)
  have BB := hide (show Below w.heap.size w wb by rw [hwb]; exact (alloc_below _ _).alloc (by simp) _)
  rw [← hdb]
  clear hwb hdb
  go_upto_region 2 with (go_at_call 9; refine (KB.out _ BB.out).mono ?_; rintro r w1 ⟨sb, T, es, rfl, hs, hT, hb⟩; have B1 := hide (show Btw wb w1 sb T es [] from ⟨hs, hT, hb⟩); clear hs hT hb)
  clear KB
  go_upto_region 4 with (go_at_call 10; refine (KF.out _).mono ?_; rintro r w2 ⟨rfl, hb⟩; have B2 := hide (B1.out.below hb); clear hb B1)
  clear KF
  go_wp2_with fail
  go_loopw [11] (fun v wr => ∃ (i : Nat) (T : Nat → Prop) (es : List SE) (H : Helds), v = .int .i64 (i : Int) ∧ i ≤ nD ∧ i ≤ 60 ∧ Btw wb wr sb T es H) (fun v _ => nD + 1 - (intOf v).toNat)
  case atStart => exact ⟨0, T, es, [], rfl, Nat.zero_le _, Nat.zero_le _, B2.out⟩
  case round =>
    clear B2 T es
    obtain ⟨i, T, es, H, rfl, hi, hi60, hB⟩ := hrel
    go_upto_region 5 with fail
    go_cut [39] from 32 to 49 (fun s w' => (∃ q : Bool, s = .bool q ∧ (q = true → i < nD ∧ i < 60)) ∧ wr = w')
    case first =>
      by_cases hlt : i < nD
      · by_cases h60 : i < 60
        · go_wp2_with fail
          go_meet
          exact ⟨⟨_, rfl, fun _ => ⟨hlt, h60⟩⟩, rfl⟩
        · go_wp2_with fail
          go_meet
          exact ⟨⟨_, rfl, fun q => by first | cases q | (have := of_decide_eq_true q; omega)⟩, rfl⟩
      · go_wp2_with fail
        go_meet
        exact ⟨⟨_, rfl, fun q => by first | cases q | (have := of_decide_eq_true q; omega)⟩, rfl⟩
    case rest =>
      obtain ⟨⟨q, rfl, hq⟩, rfl⟩ := hcut
      cases q with
      | true =>
        obtain ⟨hlt, h60⟩ := hq rfl
        have hid : i < ds.length := by rw [← HN.out]; exact hlt
        have hw0 := BB.out.trans (hB.bel.mono BB.out.size)
        obtain ⟨dq, doo, rfl, dlt, sel⟩ := HD.out.rowAt ddC 4 ddC_len i hid (by decide)
        have KD := hide (hB.call ds[i] (HI.out _ (List.getElem_mem hid)))
        have f0 := (hw0.cell (p := ⟨dq, doo + i * 4 + 0, none⟩) dlt).trans (sel 0 _ rfl)
        have f1 := (hw0.cell (p := ⟨dq, doo + i * 4 + 1, none⟩) dlt).trans (sel 1 _ rfl)
        have f2 := (hw0.cell (p := ⟨dq, doo + i * 4 + 2, none⟩) dlt).trans (sel 2 _ rfl)
        have f3 := (hw0.cell (p := ⟨dq, doo + i * 4 + 3, none⟩) dlt).trans (sel 3 _ rfl)
        simp only [Nat.add_zero] at f0
        generalize ds[i] = x at *
        obtain ⟨kd', tx', ct', d'⟩ := x
        simp only at f0 f1 f2 f3 KD
        clear sel hB hw0 hq
        go_wp2_with (go_at_call 11; refine KD.out.mono ?_; rintro r w2 ⟨rfl, T2, es2, H2, hB⟩)
        go_roundw
        case rel => exact ⟨i + 1, _, _, _, by go_num, by omega, by omega, hB⟩
        case measure => simp [intOf]; omega
      | false =>
        clear hq
        obtain ⟨m0, -⟩ := (MC.out.below hB.bel).get 0 _ rfl
        obtain ⟨m1, -⟩ := (MC.out.below hB.bel).get 1 _ rfl
        obtain ⟨m2, -⟩ := (MC.out.below hB.bel).get 2 _ rfl
        obtain ⟨m3, -⟩ := (MC.out.below hB.bel).get 3 _ rfl
        have HB := hide hB
        clear hB
        go_upto_region 11 with (go_at_call 19; refine (KC.out _).mono ?_; rintro r w3 ⟨rfl, hb3⟩)
        clear m0 m1 m2 m3 KC MC
        refine named (P := Code.wp _ _ _ _) ?_
        intro w4 hw4
        obtain ⟨cb, hcb⟩ : ∃ z, z = w3.heap.size := ⟨_, rfl⟩
        have C4 := hide (show Cells w4 cb [.int .i64 (8 + 1), .int .i64 gg, .int .i64 L, .int .i64 U, .int .i64 V] by rw [hw4, hcb]; exact Cells.new _ _ _)
        have b34 : Below w3.heap.size w3 w4 := by rw [hw4]; exact alloc_below _ _
        have b4 : Below wr.heap.size wr w4 := hb3.trans (b34.mono hb3.size)
        have B4 := hide (HB.out.below b4)
        have CW := hide (show wr.heap.size ≤ cb by have := hb3.size; omega)
        have Y4 := hide b4
        rw [← hcb]
        clear hw4 hcb b34 hb3 b4
        obtain ⟨q0, p0⟩ := C4.out.get 0 _ rfl
        go_upto_region 12 with fail
        refine named (P := Code.wp _ _ _ _) ?_
        intro w5 hw5
        have K5 := (Keep.refl (fun z => z = cb) w4).setCell (g := cb) (j := 0) (fun _ => rfl) (.int .i64 9)
        have C5 := hide (show Cells w5 cb [.int .i64 9, .int .i64 gg, .int .i64 L, .int .i64 U, .int .i64 V] by rw [hw5]; exact C4.out.stored (j := 0) (by simp) (.int .i64 9))
        rw [← hw5] at K5
        have Y5 := hide (Y4.out.trans (K5.below Y4.out.size (fun z hz q => by have := CW.out; omega)))
        have B5 := hide (HB.out.below Y5.out)
        clear hw5 K5 q0 p0 C4 B4 Y4 HB
        obtain ⟨q1, -⟩ := C5.out.get 1 _ rfl
        have KO := hide (sumOf_any B5.out.sto gg)
        obtain ⟨ok, lab, lb, vc, ve, hst⟩ := B5.out.sto
        obtain ⟨a1, c1, a2, c2, rfl, rfl⟩ := hst.form
        obtain ⟨n, hn⟩ : ∃ n, n = es.length := ⟨_, rfl⟩
        rw [← hn] at hst
        have n8 : n ≤ 8 := by rw [hn]; exact ok.few
        have NE := hide hn
        obtain ⟨S, hl⟩ := hst.lg
        have LOK := hide hl.ok
        have EOK := hide (show ∀ x ∈ es, x.e.Ok from fun x hx => hl.ok.1.all _ (List.mem_map_of_mem hx))
        have HLn := hide (show H.length < 3000000000 from by have := helds_few ok hl.ok.2; omega)
        have OK := hide ok
        have HS := hide hst
        have HLG := hide hl
        have NF := hide (new_fits (lo := L) (hi := U) (v := V) ok GG.out RN.out)
        have LB := hide (low_Bd ok EOK.out gg)
        clear ok hst hl hn
        obtain ⟨sv, hsv⟩ : ∃ z, z = sumG (ctrsOf es) gg := ⟨_, rfl⟩
        obtain ⟨lw, hlw⟩ : ∃ z, z = lowG (ctrsOf es) gg := ⟨_, rfl⟩
        obtain ⟨hg, hhg⟩ : ∃ z, z = highG (ctrsOf es) gg := ⟨_, rfl⟩
        rw [← hsv, ← hlw, ← hhg] at KO
        rw [← hlw, ← hhg] at NF
        rw [← hlw, ← hhg] at LB
        clear hsv hlw hhg
        go_upto_region 13 with (go_at_call 20; refine KO.out.mono ?_; rintro r w6 ⟨rfl, hb6⟩)
        clear KO q1
        refine named (P := Code.wp _ _ _ _) ?_
        intro w7 hw7
        obtain ⟨p, hp⟩ : ∃ z, z = w6.heap.size := ⟨_, rfl⟩
        have c1x : Cells w7 (p + 1) [.int .i64 (wh lw), .int .i64 (wl lw)] := by
          rw [hw7, hp]
          have := (Cells.new (w6.alloc (.cells #[.int .i64 (wh sv), .int .i64 (wl sv)] 59)) #[.int .i64 (wh lw), .int .i64 (wl lw)] 59).below (alloc_below _ (.cells #[.int .i64 (wh hg), .int .i64 (wl hg)] 59))
          simpa using this
        have c2x : Cells w7 (p + 2) [.int .i64 (wh hg), .int .i64 (wl hg)] := by
          rw [hw7, hp]
          have := Cells.new ((w6.alloc (.cells #[.int .i64 (wh sv), .int .i64 (wl sv)] 59)).alloc (.cells #[.int .i64 (wh lw), .int .i64 (wl lw)] 59)) #[.int .i64 (wh hg), .int .i64 (wl hg)] 59
          simpa using this
        have b67 : Below w6.heap.size w6 w7 := by rw [hw7]; exact ((alloc_below _ _).alloc (by simp) _).alloc (by simp; omega) _
        have b57 := hb6.trans (b67.mono hb6.size)
        have C7 := hide (C5.out.below b57)
        have D7 := hide ((DC.out.below B5.out.bel).below b57)
        have W7 := hide (BB.out.trans ((B5.out.below b57).bel.mono BB.out.size))
        have S7 := hide (HS.out.below b57)
        have L7 := hide (HLG.out.below b57)
        have P1 := hide c1x
        have P2 := hide c2x
        have PW := hide (show w5.heap.size ≤ p by have := hb6.size; omega)
        have PN := hide (show p + 2 < w7.heap.size from c2x.1)
        have SLT := hide (show ∀ z, T z → z < w5.heap.size from fun z hz => HS.out.lt z hz)
        have CLT := hide (show cb < w5.heap.size from C5.out.1)
        have DLT := hide (show db < w5.heap.size from (DC.out.below B5.out.bel).1)
        have NTD := hide (show ¬ T db from fun q => by have := B5.out.low _ q; have := DC.out.1; omega)
        have WBP := hide (show wb.heap.size ≤ w5.heap.size from B5.out.bel.size)
        have TLOW := hide (show ∀ z, T z → w.heap.size ≤ z from fun z q => Nat.le_trans BB.out.size (B5.out.low z q))
        rw [← hp]
        clear hw7 hp c1x c2x b67 hb6 b57 C5 HS HLG DC Y5 CW
        go_upto_region 13 with fail
        refine wp_region_held_drew (S := fun wz => Below w7.heap.size w7 wz) (by kernel_rfl) (Below.refl _ _).drew (fun hS => ?_)
        generalize w7.drew = y7 at *
        refine take_at 0 (some 61) (v := ?_) rfl rfl (by kernel_rfl) (by kernel_rfl) (by kernel_rfl) (fun _ _ _ h => h) ⟨by rfl, ?_⟩ hS ?_
        rotate_left
        · intro wz hSw; go_simp; try rfl
        simp only [Act.put, List.setIfInBounds_toArray, List.set_cons_zero, List.set_cons_succ]
        refine take_at 1 (some 62) (v := ?_) rfl rfl (by kernel_rfl) (by kernel_rfl) (by kernel_rfl) (fun _ _ _ h => h) ⟨by rfl, ?_⟩ hS ?_
        rotate_left
        · intro wz hSw; go_simp; try rfl
        simp only [Act.put, List.setIfInBounds_toArray, List.set_cons_zero, List.set_cons_succ]
        refine take_at 2 (some 63) (v := ?_) rfl rfl (by kernel_rfl) (by kernel_rfl) (by kernel_rfl) (fun _ _ _ h => h) ⟨by rfl, ?_⟩ hS ?_
        rotate_left
        · intro wz hSw; go_simp; try rfl
        simp only [Act.put, List.setIfInBounds_toArray, List.set_cons_zero, List.set_cons_succ]
        refine take_at 3 (some 64) (v := ?_) rfl rfl (by kernel_rfl) (by kernel_rfl) (by kernel_rfl) (fun _ _ _ h => h) ⟨by rfl, ?_⟩ hS ?_
        rotate_left
        · intro wz hSw; have m0 := ((S7.out.below hSw).box.get 0 _ rfl).1; go_simp; try rfl
        simp only [Act.put, List.setIfInBounds_toArray, List.set_cons_zero, List.set_cons_succ]
        refine take_at 5 (some 66) (v := ?_) rfl rfl (by kernel_rfl) (by kernel_rfl) (by kernel_rfl) (fun _ _ _ h => h) ⟨by rfl, ?_⟩ hS ?_
        rotate_left
        · intro wz hSw; obtain ⟨k0, _⟩ := (C7.out.below hSw).get 0 _ rfl; obtain ⟨k1, _⟩ := (C7.out.below hSw).get 1 _ rfl; obtain ⟨k2, _⟩ := (C7.out.below hSw).get 2 _ rfl; obtain ⟨k3, _⟩ := (C7.out.below hSw).get 3 _ rfl; obtain ⟨k4, _⟩ := (C7.out.below hSw).get 4 _ rfl; go_simp; try rfl
        simp only [Act.put, List.setIfInBounds_toArray, List.set_cons_zero, List.set_cons_succ]
        refine wpAnyH_ready (rs := [4]) (by kernel_rfl) (by simp) ?_
        refine AllReadyH.cons rfl (fun K hK => ?_) AllReadyH.nil
        have KX := lg_copy (L7.out.below hS) HLn.out
        go_simp
        go_wp2_with fail
        refine (KX).mono ?_
        rintro e x8 ⟨lb2, S2, rfl, hl2, hlow2, hh⟩
        have s_x8 : Below w7.heap.size w7 x8 := hS.trans (hh.mono hS.size)
        have L8 := hide hl2
        have LW8 := hide (show ∀ z, S2 z → w7.heap.size ≤ z from fun z hz => Nat.le_trans hS.size (hlow2 z hz))
        clear KX hl2 hlow2
        clear hh hS
        go_wp2_with fail
        refine hK.out _ _ s_x8 (fun hS => ?_)
        clear hK K s_x8
        (try simp only [Act.put, List.setIfInBounds_toArray, List.set_cons_zero, List.set_cons_succ])
        refine wpAnyH_ready (rs := [6]) (by kernel_rfl) (by simp) ?_
        refine AllReadyH.cons rfl (fun K hK => ?_) AllReadyH.nil
        have KX := lg_create (id := 9) (grp := gg) (lo := L) (hi := U) (v := V) L8.out I1 I2 I3
        go_simp
        go_wp2_with fail
        refine KX.mono ?_
        rintro e x9 ⟨rfl, S9, hl9, hk9, hn9⟩
        have s9 : Below w7.heap.size w7 x9 := hS.trans (hk9.below hS.size (fun z hz q => by have := LW8.out z q; omega))
        clear KX hl9 hk9 hn9 hS L8 LW8
        go_wp2_with fail
        refine hK.out _ _ s9 (fun hS => ?_)
        clear hK K s9
        (try simp only [Act.put, List.setIfInBounds_toArray, List.set_cons_zero, List.set_cons_succ])
        refine take_at 7 (some 16) (v := ?_) rfl rfl (by kernel_rfl) (by kernel_rfl) (by kernel_rfl) (fun _ _ _ h => h) ⟨by rfl, ?_⟩ hS ?_
        rotate_left
        · intro wz hSw; go_simp; try rfl
        simp only [Act.put, List.setIfInBounds_toArray, List.set_cons_zero, List.set_cons_succ]
        refine wpAnyH_done (by kernel_rfl) ?_ _
        have Q9 := hide hS
        clear hS
        obtain ⟨F, hF⟩ : ∃ F, F = newL (ctrsOf es) 9 gg L U V := ⟨_, rfl⟩
        rw [← hF] at NF ⊢
        clear hF
        obtain ⟨zl, hzl⟩ : ∃ z, z = lw + V := ⟨_, rfl⟩
        obtain ⟨zu, hzu⟩ : ∃ z, z = hg + V := ⟨_, rfl⟩
        have KP1 := hide (fun wz => plus_w lw V wz LB.out.1 I3)
        have KP2 := hide (fun wz => plus_w hg V wz LB.out.2 I3)
        have KT1 := hide (fun wz => fits_w zl wz)
        have KT2 := hide (fun wz => fits_w zu wz)
        rw [← hzl] at KP1 NF
        rw [← hzu] at KP2 NF
        clear hzl hzu
        obtain ⟨q1, hq1⟩ : ∃ q, q = fitB zl := ⟨_, rfl⟩
        obtain ⟨q2, hq2⟩ : ∃ q, q = fitB zu := ⟨_, rfl⟩
        rw [← hq1] at KT1 NF
        rw [← hq2] at KT2 NF
        clear hq1 hq2
        go_upto_region 14 with fail
        go_cut [90] (fun s w' => s = .bool false ∧ Below w7.heap.size w7 w')
        case first =>
          have cells := fun wz (h : Below w7.heap.size w7 wz) => (show wz.cell? ⟨p + 1, 0, none⟩ = some (.int .i64 (wh lw)) ∧ wz.cell? ⟨p + 1, 1, none⟩ = some (.int .i64 (wl lw)) ∧ wz.cell? ⟨p + 2, 0, none⟩ = some (.int .i64 (wh hg)) ∧ wz.cell? ⟨p + 2, 1, none⟩ = some (.int .i64 (wl hg)) ∧ wz.cell? ⟨cb, 4, none⟩ = some (.int .i64 V) from ⟨((P1.out.below h).get 0 _ rfl).1, ((P1.out.below h).get 1 _ rfl).1, ((P2.out.below h).get 0 _ rfl).1, ((P2.out.below h).get 1 _ rfl).1, ((C7.out.below h).get 4 _ rfl).1⟩)
          have CE := hide cells
          clear cells
          obtain ⟨d0, d1, d2, d3, d4⟩ := CE.out _ Q9.out
          go_wp2_with fail
          refine (KP1.out _).mono ?_
          rintro r u1 ⟨rfl, hb⟩
          have Q1 := hide (Q9.out.trans (hb.mono Q9.out.size))
          clear hb d0 d1 d2 d3 d4
          obtain ⟨d0, d1, d2, d3, d4⟩ := CE.out _ Q1.out
          go_wp2_with fail
          refine (KT1.out _).mono ?_
          rintro r u2 ⟨rfl, hb⟩
          have Q2 := hide (Q1.out.trans (hb.mono Q1.out.size))
          clear hb d0 d1 d2 d3 d4
          obtain ⟨d0, d1, d2, d3, d4⟩ := CE.out _ Q2.out
          cases q1 with
          | false =>
            have F10 : F = 10 := by rw [NF.out]; rfl
            subst F10
            go_wp2_with fail
            go_meet
            exact ⟨rfl, Q2.out⟩
          | true =>
            go_wp2_with fail
            refine (KP2.out _).mono ?_
            rintro r u3 ⟨rfl, hb⟩
            have Q3 := hide (Q2.out.trans (hb.mono Q2.out.size))
            clear hb d0 d1 d2 d3 d4
            go_wp2_with fail
            refine (KT2.out _).mono ?_
            rintro r u4 ⟨rfl, hb⟩
            have Q4 := hide (Q3.out.trans (hb.mono Q3.out.size))
            clear hb
            cases q2 with
            | false =>
              have F10 : F = 10 := by rw [NF.out]; rfl
              subst F10
              go_wp2_with fail
              go_meet
              exact ⟨rfl, Q4.out⟩
            | true =>
              have F10 : F = 0 := by rw [NF.out]; rfl
              subst F10
              go_wp2_with fail
              go_meet
              exact ⟨rfl, Q4.out⟩
        case rest =>
          obtain ⟨rfl, hb⟩ := hcut
          have Q8 := hide hb
          clear hb Q9 KP1 KP2 KT1 KT2 NF LB C7
          have KM := hide (fun w' => modulo_any tx 6 w' (by omega) (by omega))
          have KK := hide (fun w' => modulo_any ct 8 w' (by omega) (by omega))
          obtain ⟨t, ht⟩ : ∃ t, t = 1 + tx % 6 := ⟨_, rfl⟩
          obtain ⟨k, hk⟩ : ∃ t, t = 1 + ct % 8 := ⟨_, rfl⟩
          have ti : IntKind.i64.wrap (1 + tx % 6) = t := by rw [IntKind.wrap_i64]; omega
          have ti2 : wrap64 (1 + tx % 6) = t := by unfold wrap64; omega
          have ki : IntKind.i64.wrap (1 + ct % 8) = k := by rw [IntKind.wrap_i64]; omega
          have ki2 : wrap64 (1 + ct % 8) = k := by unfold wrap64; omega
          have T6 := hide (show 1 ≤ t ∧ t ≤ 6 by omega)
          have TI := hide (show I64 t by unfold I64; omega)
          have KI := hide (show I64 k by unfold I64; omega)
          clear ht hk
          have e1 := ((D7.out.below Q8.out).get 1 _ rfl).1
          go_upto_region 17 with (go_at_call 16; refine (KM.out _).mono ?_; rintro r u1 ⟨rfl, hb⟩; have Q1 := hide (Q8.out.trans (hb.mono Q8.out.size)); clear hb Q8 e1 KM)
          have e2 := ((D7.out.below Q1.out).get 2 _ rfl).1
          go_upto_region 18 with (go_at_call 16; refine (KK.out _).mono ?_; rintro r u2 ⟨rfl, hb⟩; have Q2 := hide (Q1.out.trans (hb.mono Q1.out.size)); clear hb Q1 e2 KK)
          clear ti ti2 ki ki2
          obtain ⟨a', c', e', hlc, -⟩ := GRow.lies (S7.out.below Q2.out).rc
          simp only [Value.slice.injEq] at e'
          obtain ⟨rfl, -, -⟩ := e'
          have KAT := hide (at_any es sb lb a1 n c1 (.slice a2 n c2) k u2 (S7.out.below Q2.out).box hlc NE.out n8)
          clear hlc
          go_upto_region 19 with (go_at_call 25; refine KAT.out.mono ?_; rintro r u3 ⟨hat, rfl⟩; rcases hat with ⟨j, hj, rfl, hjk⟩ | ⟨rfl, hno⟩)
          · have hje : j < n := by rw [NE.out]; exact hj
            obtain ⟨cq, co, eq, eo, rfl, rfl, sees⟩ := (S7.out.below Q2.out).see hj
            have XC := hide sees
            have S9 := hide (S7.out.below Q2.out)
            have L9 := hide (L7.out.below Q2.out)
            have D9 := hide (D7.out.below Q2.out)
            have ejok := EOK.out _ (List.getElem_mem hj)
            have KME := hide (fun (wz : World) (h : Below u2.heap.size u2 wz) => may_any _ _ _ t d wz ((S9.out.esc j hj).keep (Keep.of_below (S := fun _ => False) h) id id) TI.out HDD.out)
            have HJK := hide hjk
            have NL6 := hide (nets_few OK.out (List.getElem_mem hj) ejok)
            clear sees hjk KAT
            obtain ⟨E, hE⟩ : ∃ E, E = mayE es[j].e t d := ⟨_, rfl⟩
            rw [← hE] at KME
            have HE := hide hE
            clear hE
            have j0 : decide ((j : Int) < 0) = false := by rw [decide_eq_false_iff_not]; omega
            go_upto_region 19 with fail
            refine wp_region_held_drew (S := fun wz => Below u2.heap.size u2 wz) (by kernel_rfl) (Below.refl _ _).drew (fun hS => ?_)
            generalize u2.drew = y9 at *
            refine take_at 0 (some 102) (v := ?_) rfl rfl (by kernel_rfl) (by kernel_rfl) (by kernel_rfl) (fun _ _ _ h => h) ⟨by rfl, ?_⟩ hS ?_
            rotate_left
            · intro wz hSw; go_simp; try rfl
            simp only [Act.put, List.setIfInBounds_toArray, List.set_cons_zero, List.set_cons_succ]
            refine take_at 1 (some 103) (v := ?_) rfl rfl (by kernel_rfl) (by kernel_rfl) (by kernel_rfl) (fun _ _ _ h => h) ⟨by rfl, ?_⟩ hS ?_
            rotate_left
            · intro wz hSw; go_simp; try rfl
            simp only [Act.put, List.setIfInBounds_toArray, List.set_cons_zero, List.set_cons_succ]
            refine take_at 2 (some 104) (v := ?_) rfl rfl (by kernel_rfl) (by kernel_rfl) (by kernel_rfl) (fun _ _ _ h => h) ⟨by rfl, ?_⟩ hS ?_
            rotate_left
            · intro wz hSw; go_simp; try rfl
            simp only [Act.put, List.setIfInBounds_toArray, List.set_cons_zero, List.set_cons_succ]
            refine take_at 3 (some 105) (v := ?_) rfl rfl (by kernel_rfl) (by kernel_rfl) (by kernel_rfl) (fun _ _ _ h => h) ⟨by rfl, ?_⟩ hS ?_
            rotate_left
            · intro wz hSw; go_simp; try rfl
            simp only [Act.put, List.setIfInBounds_toArray, List.set_cons_zero, List.set_cons_succ]
            refine take_at 4 (some 106) (v := ?_) rfl rfl (by kernel_rfl) (by kernel_rfl) (by kernel_rfl) (fun _ _ _ h => h) ⟨by rfl, ?_⟩ hS ?_
            rotate_left
            · intro wz hSw; go_simp; try rfl
            simp only [Act.put, List.setIfInBounds_toArray, List.set_cons_zero, List.set_cons_succ]
            refine take_at 5 (some 107) (v := ?_) rfl rfl (by kernel_rfl) (by kernel_rfl) (by kernel_rfl) (fun _ _ _ h => h) ⟨by rfl, ?_⟩ hS ?_
            rotate_left
            · intro wz hSw; go_simp; try rfl
            simp only [Act.put, List.setIfInBounds_toArray, List.set_cons_zero, List.set_cons_succ]
            refine take_at 6 (some 108) (v := ?_) rfl rfl (by kernel_rfl) (by kernel_rfl) (by kernel_rfl) (fun _ _ _ h => h) ⟨by rfl, ?_⟩ hS ?_
            rotate_left
            · intro wz hSw; obtain ⟨z0, z1, z2, x0, x1, x2, x3, x4, xe⟩ := XC.out _ hSw; go_simp; try rfl
            simp only [Act.put, List.setIfInBounds_toArray, List.set_cons_zero, List.set_cons_succ]
            refine take_at 7 (some 109) (v := ?_) rfl rfl (by kernel_rfl) (by kernel_rfl) (by kernel_rfl) (fun _ _ _ h => h) ⟨by rfl, ?_⟩ hS ?_
            rotate_left
            · intro wz hSw; go_simp; try rfl
            simp only [Act.put, List.setIfInBounds_toArray, List.set_cons_zero, List.set_cons_succ]
            refine take_at 8 (some 110) (v := ?_) rfl rfl (by kernel_rfl) (by kernel_rfl) (by kernel_rfl) (fun _ _ _ h => h) ⟨by rfl, ?_⟩ hS ?_
            rotate_left
            · intro wz hSw; go_simp; try rfl
            simp only [Act.put, List.setIfInBounds_toArray, List.set_cons_zero, List.set_cons_succ]
            refine take_at 9 (some 111) (v := ?_) rfl rfl (by kernel_rfl) (by kernel_rfl) (by kernel_rfl) (fun _ _ _ h => h) ⟨by rfl, ?_⟩ hS ?_
            rotate_left
            · intro wz hSw; obtain ⟨z0, z1, z2, x0, x1, x2, x3, x4, xe⟩ := XC.out _ hSw; go_simp; try rfl
            simp only [Act.put, List.setIfInBounds_toArray, List.set_cons_zero, List.set_cons_succ]
            refine take_at 10 (some 112) (v := ?_) rfl rfl (by kernel_rfl) (by kernel_rfl) (by kernel_rfl) (fun _ _ _ h => h) ⟨by rfl, ?_⟩ hS ?_
            rotate_left
            · intro wz hSw; go_simp; try rfl
            simp only [Act.put, List.setIfInBounds_toArray, List.set_cons_zero, List.set_cons_succ]
            refine take_at 11 (some 113) (v := ?_) rfl rfl (by kernel_rfl) (by kernel_rfl) (by kernel_rfl) (fun _ _ _ h => h) ⟨by rfl, ?_⟩ hS ?_
            rotate_left
            · intro wz hSw; go_simp; try rfl
            simp only [Act.put, List.setIfInBounds_toArray, List.set_cons_zero, List.set_cons_succ]
            refine take_at 12 (some 114) (v := ?_) rfl rfl (by kernel_rfl) (by kernel_rfl) (by kernel_rfl) (fun _ _ _ h => h) ⟨by rfl, ?_⟩ hS ?_
            rotate_left
            · intro wz hSw; obtain ⟨d3, _⟩ := (D9.out.below hSw).get 3 _ rfl; go_simp; try rfl
            simp only [Act.put, List.setIfInBounds_toArray, List.set_cons_zero, List.set_cons_succ]
            refine wpAnyH_ready (rs := [13]) (by kernel_rfl) (by simp) ?_
            refine AllReadyH.cons rfl (fun K hK => ?_) AllReadyH.nil
            go_simp
            go_wp2_with fail
            refine (KME.out _ hS).mono ?_
            rintro e x9 ⟨rfl, hh⟩
            have s_x9 : Below u2.heap.size u2 x9 := hS.trans (hh.mono hS.size)
            clear hh hS
            go_wp2_with fail
            refine hK.out _ _ s_x9 (fun hS => ?_)
            clear hK K s_x9
            (try simp only [Act.put, List.setIfInBounds_toArray, List.set_cons_zero, List.set_cons_succ])
            refine take_at 14 (some 116) (v := ?_) rfl rfl (by kernel_rfl) (by kernel_rfl) (by kernel_rfl) (fun _ _ _ h => h) ⟨by rfl, ?_⟩ hS ?_
            rotate_left
            · intro wz hSw; go_simp; try rfl
            simp only [Act.put, List.setIfInBounds_toArray, List.set_cons_zero, List.set_cons_succ]
            refine take_at 15 (some 117) (v := ?_) rfl rfl (by kernel_rfl) (by kernel_rfl) (by kernel_rfl) (fun _ _ _ h => h) ⟨by rfl, ?_⟩ hS ?_
            rotate_left
            · intro wz hSw; go_simp; try rfl
            simp only [Act.put, List.setIfInBounds_toArray, List.set_cons_zero, List.set_cons_succ]
            refine wpAnyH_done (by kernel_rfl) ?_ _
            have Q9 := hide (Q2.out.trans (hS.mono Q2.out.size))
            have Y9 := hide hS
            clear hS
            clear j0
            by_cases hE0 : E = 0
            · have n0 : (E != 0) = false := by simpa using hE0
              have E0 := hide (show mayE es[j].e t d = 0 by rw [← HE.out]; exact hE0)
              subst hE0
              have MF := hide (may_fits LOK.out.1.up T6.out hj ejok E0.out)
              have HC := hide (show es[j].id = k from HJK.out)
              rw [HC.out] at MF
              clear n0
              go_upto_region 21 with fail
              refine wp_region_held_drew (S := fun wz => Below x9.heap.size x9 wz) (by kernel_rfl) (Below.refl _ _).drew (fun hS => ?_)
              generalize x9.drew = y10 at *
              refine take_at 0 (some 118) (v := ?_) rfl rfl (by kernel_rfl) (by kernel_rfl) (by kernel_rfl) (fun _ _ _ h => h) ⟨by rfl, ?_⟩ hS ?_
              rotate_left
              · intro wz hSw; go_simp; try rfl
              simp only [Act.put, List.setIfInBounds_toArray, List.set_cons_zero, List.set_cons_succ]
              refine take_at 1 (some 119) (v := ?_) rfl rfl (by kernel_rfl) (by kernel_rfl) (by kernel_rfl) (fun _ _ _ h => h) ⟨by rfl, ?_⟩ hS ?_
              rotate_left
              · intro wz hSw; go_simp; try rfl
              simp only [Act.put, List.setIfInBounds_toArray, List.set_cons_zero, List.set_cons_succ]
              refine take_at 2 (some 120) (v := ?_) rfl rfl (by kernel_rfl) (by kernel_rfl) (by kernel_rfl) (fun _ _ _ h => h) ⟨by rfl, ?_⟩ hS ?_
              rotate_left
              · intro wz hSw; go_simp; try rfl
              simp only [Act.put, List.setIfInBounds_toArray, List.set_cons_zero, List.set_cons_succ]
              refine take_at 3 (some 121) (v := ?_) rfl rfl (by kernel_rfl) (by kernel_rfl) (by kernel_rfl) (fun _ _ _ h => h) ⟨by rfl, ?_⟩ hS ?_
              rotate_left
              · intro wz hSw; obtain ⟨z0, z1, z2, x0, x1, x2, x3, x4, xe⟩ := XC.out _ (Y9.out.trans (hSw.mono Y9.out.size)); go_simp; try rfl
              simp only [Act.put, List.setIfInBounds_toArray, List.set_cons_zero, List.set_cons_succ]
              refine take_at 4 (some 122) (v := ?_) rfl rfl (by kernel_rfl) (by kernel_rfl) (by kernel_rfl) (fun _ _ _ h => h) ⟨by rfl, ?_⟩ hS ?_
              rotate_left
              · intro wz hSw; go_simp; try rfl
              simp only [Act.put, List.setIfInBounds_toArray, List.set_cons_zero, List.set_cons_succ]
              refine take_at 5 (some 123) (v := ?_) rfl rfl (by kernel_rfl) (by kernel_rfl) (by kernel_rfl) (fun _ _ _ h => h) ⟨by rfl, ?_⟩ hS ?_
              rotate_left
              · intro wz hSw; go_simp; try rfl
              simp only [Act.put, List.setIfInBounds_toArray, List.set_cons_zero, List.set_cons_succ]
              refine take_at 6 (some 124) (v := ?_) rfl rfl (by kernel_rfl) (by kernel_rfl) (by kernel_rfl) (fun _ _ _ h => h) ⟨by rfl, ?_⟩ hS ?_
              rotate_left
              · intro wz hSw; go_simp; try rfl
              simp only [Act.put, List.setIfInBounds_toArray, List.set_cons_zero, List.set_cons_succ]
              refine take_at 7 (some 125) (v := ?_) rfl rfl (by kernel_rfl) (by kernel_rfl) (by kernel_rfl) (fun _ _ _ h => h) ⟨by rfl, ?_⟩ hS ?_
              rotate_left
              · intro wz hSw; obtain ⟨d3, _⟩ := (D9.out.below (Y9.out.trans (hSw.mono Y9.out.size))).get 3 _ rfl; go_simp; try rfl
              simp only [Act.put, List.setIfInBounds_toArray, List.set_cons_zero, List.set_cons_succ]
              refine wpAnyH_ready (rs := [8]) (by kernel_rfl) (by simp) ?_
              refine AllReadyH.cons rfl (fun K hK => ?_) AllReadyH.nil
              have KX := lg_may (L9.out.below (Y9.out.trans (hS.mono Y9.out.size))) (tx := t) (id := k) (d := d) TI.out KI.out HDD.out
              go_simp
              go_wp2_with fail
              refine (KX).mono ?_
              rintro e x10 ⟨rfl, hh⟩
              have s_x10 : Below x9.heap.size x9 x10 := hS.trans (hh.mono hS.size)
              clear KX
              clear hh hS
              go_wp2_with fail
              refine hK.out _ _ s_x10 (fun hS => ?_)
              clear hK K s_x10
              (try simp only [Act.put, List.setIfInBounds_toArray, List.set_cons_zero, List.set_cons_succ])
              refine take_at 9 (some 16) (v := ?_) rfl rfl (by kernel_rfl) (by kernel_rfl) (by kernel_rfl) (fun _ _ _ h => h) ⟨by rfl, ?_⟩ hS ?_
              rotate_left
              · intro wz hSw; go_simp; try rfl
              simp only [Act.put, List.setIfInBounds_toArray, List.set_cons_zero, List.set_cons_succ]
              refine wpAnyH_done (by kernel_rfl) ?_ _
              have Q10 := hide (Q9.out.trans (hS.mono Q9.out.size))
              have Y10 := hide (Y9.out.trans (hS.mono Y9.out.size))
              clear hS Q9 Y9
              obtain ⟨F, hF⟩ : ∃ F, F = mayL (ctrsOf es) t k d := ⟨_, rfl⟩
              rw [← hF] at MF ⊢
              clear hF
              go_upto_region 22 with fail
              have S10 := hide (S9.out.below Y10.out)
              have D10 := hide (D9.out.below Y10.out)
              have YD : Below u2.heap.size u2 x10.drew := Y10.out.drew
              refine wp_region_held_drew (S := fun wz => wz.cell? ⟨sb, 2, none⟩ = some (.slice (some ⟨eq, eo, none⟩) n c2) ∧ wz.cell? ⟨eq, eo + j, none⟩ = some (ptr es[j].eb) ∧ wz.cell? ⟨db, 3, none⟩ = some (.int .i64 d)) (by kernel_rfl) ⟨(XC.out _ YD).m2, (XC.out _ YD).xe, ((D9.out.below YD).get 3 _ rfl).1⟩ (fun hS => ?_)
              have S11 := hide (S9.out.below YD)
              have D11 := hide (D9.out.below YD)
              have Q11 := hide Q10.out.drew
              have KA := hide (add_any' _ _ _ t d _ (S11.out.esc j hj) TI.out HDD.out (by have := NL6.out; omega))
              generalize x10.drew = y11 at *
              refine take_at 0 (some 127) (v := ?_) rfl rfl (by kernel_rfl) (by kernel_rfl) (by kernel_rfl) (fun _ _ _ h => h) ⟨by rfl, ?_⟩ hS ?_
              rotate_left
              · intro wz hSw; go_simp; try rfl
              simp only [Act.put, List.setIfInBounds_toArray, List.set_cons_zero, List.set_cons_succ]
              refine take_at 1 (some 128) (v := ?_) rfl rfl (by kernel_rfl) (by kernel_rfl) (by kernel_rfl) (fun _ _ _ h => h) ⟨by rfl, ?_⟩ hS ?_
              rotate_left
              · intro wz hSw; go_simp; try rfl
              simp only [Act.put, List.setIfInBounds_toArray, List.set_cons_zero, List.set_cons_succ]
              refine take_at 2 (some 129) (v := ?_) rfl rfl (by kernel_rfl) (by kernel_rfl) (by kernel_rfl) (fun _ _ _ h => h) ⟨by rfl, ?_⟩ hS ?_
              rotate_left
              · intro wz hSw; go_simp; try rfl
              simp only [Act.put, List.setIfInBounds_toArray, List.set_cons_zero, List.set_cons_succ]
              refine take_at 3 (some 130) (v := ?_) rfl rfl (by kernel_rfl) (by kernel_rfl) (by kernel_rfl) (fun _ _ _ h => h) ⟨by rfl, ?_⟩ hS ?_
              rotate_left
              · intro wz hSw; obtain ⟨g0, g1, g2⟩ := hSw; go_simp; try rfl
              simp only [Act.put, List.setIfInBounds_toArray, List.set_cons_zero, List.set_cons_succ]
              refine take_at 4 (some 131) (v := ?_) rfl rfl (by kernel_rfl) (by kernel_rfl) (by kernel_rfl) (fun _ _ _ h => h) ⟨by rfl, ?_⟩ hS ?_
              rotate_left
              · intro wz hSw; go_simp; try rfl
              simp only [Act.put, List.setIfInBounds_toArray, List.set_cons_zero, List.set_cons_succ]
              refine take_at 5 (some 132) (v := ?_) rfl rfl (by kernel_rfl) (by kernel_rfl) (by kernel_rfl) (fun _ _ _ h => h) ⟨by rfl, ?_⟩ hS ?_
              rotate_left
              · intro wz hSw; go_simp; try rfl
              simp only [Act.put, List.setIfInBounds_toArray, List.set_cons_zero, List.set_cons_succ]
              refine take_at 6 (some 133) (v := ?_) rfl rfl (by kernel_rfl) (by kernel_rfl) (by kernel_rfl) (fun _ _ _ h => h) ⟨by rfl, ?_⟩ hS ?_
              rotate_left
              · intro wz hSw; obtain ⟨g0, g1, g2⟩ := hSw; go_simp; try rfl
              simp only [Act.put, List.setIfInBounds_toArray, List.set_cons_zero, List.set_cons_succ]
              refine take_at 7 (some 134) (v := ?_) rfl rfl (by kernel_rfl) (by kernel_rfl) (by kernel_rfl) (fun _ _ _ h => h) ⟨by rfl, ?_⟩ hS ?_
              rotate_left
              · intro wz hSw; go_simp; try rfl
              simp only [Act.put, List.setIfInBounds_toArray, List.set_cons_zero, List.set_cons_succ]
              refine take_at 8 (some 135) (v := ?_) rfl rfl (by kernel_rfl) (by kernel_rfl) (by kernel_rfl) (fun _ _ _ h => h) ⟨by rfl, ?_⟩ hS ?_
              rotate_left
              · intro wz hSw; go_simp; try rfl
              simp only [Act.put, List.setIfInBounds_toArray, List.set_cons_zero, List.set_cons_succ]
              refine take_at 9 (some 136) (v := ?_) rfl rfl (by kernel_rfl) (by kernel_rfl) (by kernel_rfl) (fun _ _ _ h => h) ⟨by rfl, ?_⟩ hS ?_
              rotate_left
              · intro wz hSw; obtain ⟨g0, g1, g2⟩ := hSw; go_simp; try rfl
              simp only [Act.put, List.setIfInBounds_toArray, List.set_cons_zero, List.set_cons_succ]
              refine wpAnyH_ready (rs := [10]) (by kernel_rfl) (by simp) ?_
              refine AllReadyH.cons rfl (fun K hK => ?_) AllReadyH.nil
              go_simp
              go_wp2_with fail
              refine KA.out.mono ?_
              rintro e x12 ⟨rfl, hk12, hp12⟩
              have hes := S11.out.escrow hj hk12 hp12 (addN_ends _ _ _).1 (addN_ends _ _ _).2
              have S12 := hide hes.1
              have G12 := hide hes.2
              have PO := hide hp12.ok
              have off : ∀ z, ¬ T z → ¬ two es[j].eb es[j].mb z := fun z hz q => by rcases q with q | q; exact hz (by rw [q]; exact (S11.out.le j hj).1); exact hz (by rw [q]; exact (S11.out.le j hj).2.1)
              have D12 := hide (D11.out.keep hk12 (off _ (fun q => by have := SLT.out _ q; have := DLT.out; have := NTD.out; exact NTD.out q)))
              have P12 := hide ((P1.out.below Q11.out).keep hk12 (off _ (fun q => by have := SLT.out _ q; have := PW.out; omega)))
              have P13 := hide ((P2.out.below Q11.out).keep hk12 (off _ (fun q => by have := SLT.out _ q; have := PW.out; omega)))
              have BW12 := hide ((W7.out.trans (Q11.out.mono W7.out.size)).trans (hk12.below (W7.out.trans (Q11.out.mono W7.out.size)).size (fun z hz q => by have := TLOW.out; rcases q with q | q; exact absurd hz (by have := TLOW.out _ (S11.out.le j hj).1; omega); exact absurd hz (by have := TLOW.out _ (S11.out.le j hj).2.1; omega))))
              clear hes off hk12 hp12 KA hS
              obtain ⟨cq', co', eq', eo', e1', e2', sees⟩ := S12.out.see (k := j) (by simpa using hj)
              cases e1'
              cases e2'
              have ej : (es.set j (es[j].turn (addN es[j].e t d)))[j]'(by simpa using hj) = es[j].turn (addN es[j].e t d) := by simp
              rw [ej] at sees
              have sx := sees _ (Below.refl _ _)
              go_wp2_with fail
              refine hK.out _ _ ⟨sx.m2, sx.xe, (D12.out.get 3 _ rfl).1⟩ (fun hS => ?_)
              clear hK K hS
              (try simp only [Act.put, List.setIfInBounds_toArray, List.set_cons_zero, List.set_cons_succ])
              refine wpAnyH_done (by kernel_rfl) ?_ _
              have SX := hide sx
              clear sx ej sees S11 D11 Q11 D12 S10 D10 Q10 Y10 XC
              have eok' : ∀ x ∈ es.set j (es[j].turn (addN es[j].e t d)), x.e.Ok := fun x hx => by
                rcases List.mem_or_eq_of_mem_set hx with q | q
                · exact EOK.out x q
                · subst q; exact PO.out
              have KO2 := hide (sumOf_st S12.out (add_ok OK.out hj T6.out [] nofun) eok' es[j].grp)
              obtain ⟨gr, hgr⟩ : ∃ z, z = es[j].grp := ⟨_, rfl⟩
              rw [← hgr] at KO2 MF
              obtain ⟨s2, hs2⟩ : ∃ z, z = sumG (ctrsOf (es.set j (es[j].turn (addN es[j].e t d)))) gr := ⟨_, rfl⟩
              obtain ⟨l2, hl2⟩ : ∃ z, z = lowG (ctrsOf (es.set j (es[j].turn (addN es[j].e t d)))) gr := ⟨_, rfl⟩
              obtain ⟨h2, hh2⟩ : ∃ z, z = highG (ctrsOf (es.set j (es[j].turn (addN es[j].e t d)))) gr := ⟨_, rfl⟩
              rw [← hs2, ← hl2, ← hh2] at KO2
              rw [← hl2, ← hh2] at MF
              obtain ⟨m0, m1, m2, x0, x1, x2, x3, x4, xe⟩ := SX.out
              have x1' : x12.cell? ⟨cq, co + j * 5 + 1, none⟩ = some (.int .i64 gr) := by rw [hgr]; exact x1
              clear hgr hs2 hl2 hh2 eok' x0 x1 x2 x3 x4 xe m0 m2 SX
              go_upto_region 24 with (go_at_call 20; refine KO2.out.mono ?_; rintro r x13 ⟨rfl, hb13⟩; have P14 := hide (P12.out.below hb13); have P15 := hide (P13.out.below hb13); have BW13 := hide (BW12.out.trans (hb13.mono BW12.out.size)); obtain ⟨a0, b0⟩ := P14.out.get 0 _ rfl; obtain ⟨a1, b1⟩ := P14.out.get 1 _ rfl; obtain ⟨a2, b2⟩ := P15.out.get 0 _ rfl; obtain ⟨a3, b3⟩ := P15.out.get 1 _ rfl; clear hb13 P12 P13 BW12)
              clear KO2 m1 x1'
              refine named (P := Code.wp _ _ _ _) ?_
              intro x14 hx14
              have k1 := ((Keep.refl (fun z => z = p + 1) x13).setCell (g := p + 1) (j := 0) (fun _ => rfl) (.int .i64 (wh l2))).setCell (g := p + 1) (j := 1) (fun _ => rfl) (.int .i64 (wl l2))
              have c1 := (P14.out.stored (j := 0) (by simp) (.int .i64 (wh l2))).stored (j := 1) (by simp) (.int .i64 (wl l2))
              have c2 := P15.out.keep k1 (by omega)
              have k2 := ((Keep.refl (fun z => z = p + 2) ((x13.setCell ⟨p + 1, 0, none⟩ (.int .i64 (wh l2))).setCell ⟨p + 1, 1, none⟩ (.int .i64 (wl l2)))).setCell (g := p + 2) (j := 0) (fun _ => rfl) (.int .i64 (wh h2))).setCell (g := p + 2) (j := 1) (fun _ => rfl) (.int .i64 (wl h2))
              have c3 := c1.keep k2 (by omega)
              have c4 := (c2.stored (j := 0) (by simp) (.int .i64 (wh h2))).stored (j := 1) (by simp) (.int .i64 (wl h2))
              rw [← hx14] at k2 c3 c4
              have C3 := hide (show Cells x14 (p + 1) [.int .i64 (wh l2), .int .i64 (wl l2)] by simpa using c3)
              have C4 := hide (show Cells x14 (p + 2) [.int .i64 (wh h2), .int .i64 (wl h2)] by simpa using c4)
              have pw : w.heap.size ≤ p := Nat.le_trans (Nat.le_trans BB.out.size WBP.out) PW.out
              have BW14 := hide ((BW13.out.trans (k1.below BW13.out.size (fun z hz q => by omega))).trans (k2.below (BW13.out.trans (k1.below BW13.out.size (fun z hz q => by omega))).size (fun z hz q => by omega)))
              clear hx14 k1 k2 c1 c2 c3 c4 P14 P15 BW13 a0 a1 a2 a3 b0 b1 b2 b3 pw
              have KT1 := hide (fun wz => fits_w l2 wz)
              have KT2 := hide (fun wz => fits_w h2 wz)
              obtain ⟨q1, hq1⟩ : ∃ q, q = fitB l2 := ⟨_, rfl⟩
              obtain ⟨q2, hq2⟩ : ∃ q, q = fitB h2 := ⟨_, rfl⟩
              rw [← hq1] at KT1 MF
              rw [← hq2] at KT2 MF
              clear hq1 hq2
              obtain ⟨a0, -⟩ := C3.out.get 0 _ rfl
              obtain ⟨a1, -⟩ := C3.out.get 1 _ rfl
              go_wp2_with fail
              refine (KT1.out _).mono ?_
              rintro r u5 ⟨rfl, hb5⟩
              have C5' := hide (C4.out.below hb5)
              have BW5 := hide (BW14.out.trans (hb5.mono BW14.out.size))
              obtain ⟨a2, -⟩ := C5'.out.get 0 _ rfl
              obtain ⟨a3, -⟩ := C5'.out.get 1 _ rfl
              clear hb5 a0 a1 C3 C4 BW14 KT1
              cases q1 with
              | false =>
                have F10 : F = 10 := by rw [MF.out]; rfl
                subst F10
                go_wp2_with fail
                go_ret
                exact ⟨by rfl, BW5.out⟩
              | true =>
                go_wp2_with fail
                refine (KT2.out _).mono ?_
                rintro r u6 ⟨rfl, hb6⟩
                have BW6 := hide (BW5.out.trans (hb6.mono BW5.out.size))
                clear hb6
                cases q2 with
                | false =>
                  have F10 : F = 10 := by rw [MF.out]; rfl
                  subst F10
                  go_wp2_with fail
                  go_ret
                  exact ⟨by rfl, BW6.out⟩
                | true =>
                  have F10 : F = 0 := by rw [MF.out]; rfl
                  subst F10
                  go_wp2_with fail
                  go_ret
                  exact ⟨by rfl, BW6.out⟩
            · have n0 : (E != 0) = true := by simpa using hE0
              go_wp2_with fail
              go_ret
              exact ⟨rfl, W7.out.trans (Q9.out.mono W7.out.size)⟩
          · clear KAT
            go_upto_region 19 with fail
            go_quiet (fail)
            go_wp2_with fail
            go_ret
            exact ⟨rfl, below_drewN (W7.out.trans (Q2.out.mono W7.out.size)) _⟩
end Go.Proofs.YtaohdmaenplbpaaGreat
