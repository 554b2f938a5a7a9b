import Derived.Test.YtblngphjoafidaaGreatTx8
import Derived.Test.YtblngphjoafidaaGreatTx6
namespace Go.Proofs.YtblngphjoafidaaGreat
open Go.RowKit Go.QK Go.Maps Go.QM Go.QT
set_option maxRecDepth 100000
theorem okFrom_cons (a n : Int) (x : Lv) (r : List Lv) : okFrom a n (x :: r) = (decide (a < x.tx) && decide (x.tx < n) && isLsn x.last && !(x.com && x.und) && okFrom x.tx n r) := rfl
theorem row_at {w w' : World} {la : Option Addr} {L : List Lv} (h : Lies w la (rowsC lvC L)) (hb : Below w.heap.size w w') {k : Nat} (hk : k < L.length) : ∃ bl off, la = some ⟨bl, off, none⟩ ∧ bl < w.heap.size ∧ w'.cell? ⟨bl, off + k * 4, none⟩ = some (.int .i64 L[k].tx) ∧ w'.cell? ⟨bl, off + k * 4 + 1, none⟩ = some (.int .i64 L[k].last) ∧ w'.cell? ⟨bl, off + k * 4 + 2, none⟩ = some (.bool L[k].com) ∧ w'.cell? ⟨bl, off + k * 4 + 3, none⟩ = some (.bool L[k].und) := by
  obtain ⟨bl, off, ha, hbl, hcell⟩ := Lies.rowAt lvC 4 (fun _ => rfl) h k hk (by omega)
  have c := fun j v hv => (hb.cell (p := ⟨bl, off + k * 4 + j, none⟩) hbl).trans (hcell j v hv)
  exact ⟨bl, off, ha, hbl, c 0 _ rfl, c 1 _ rfl, c 2 _ rfl, c 3 _ rfl⟩
set_option maxHeartbeats 4000000 in
theorem mayTable_any (la : Option Addr) (lc : Nat) (vD : Value) (next : Int) (L : List Lv) (w : World) (hL : Lies w la (rowsC lvC L)) (hlm : L.length ≤ 9223372036854775807) :
    Calls Tryz.prog 60 #[.agg #[.slice la L.length lc, vD, .int .i64 next]] w fun e w' => e = .returned (.bool (loadOk L next)) ∧ Below w.heap.size w w' := by
  have KN := fun w => mayNext_any next w
  have KL := fun n w => mayLsn_any n w
  obtain ⟨R, hR⟩ : ∃ R, R = loadOk L next := ⟨_, rfl⟩
  rw [← hR]
  have hR2 := hR
  unfold loadOk at hR
  have HLI := hide hL
  clear hL hR2
  cases hn : isNext next with
  | false =>
    rw [hn] at hR KN
    simp only [Bool.false_and] at hR
    subst hR
    go_enter Tryz.func60, Tryz.ntmps60
    go_wp2_with (go_at_call 43; refine (KN _).mono ?_; rintro e wz ⟨rfl, rfl⟩)
    go_ret
    exact ⟨rfl, alloc_below _ _⟩
  | true =>
    rw [hn] at hR KN
    simp only [Bool.true_and] at hR
    by_cases hl : L.length ≤ 32
    · have d1 : decide (32 < L.length) = false := by simp; omega
      have d2 : decide ((32 : Int) < (L.length : Int)) = false := by simp; omega
      have d3 : decide (L.length ≤ 32) = true := by simpa using hl
      rw [d3, Bool.true_and] at hR
      have HR := hide hR
      clear hR d3 hlm
      go_enter Tryz.func60, Tryz.ntmps60
      go_upto_region 4 with (go_at_call 43; refine (KN _).mono ?_; rintro e wz ⟨rfl, rfl⟩)
      refine named (P := Code.wp _ _ _ _) ?_
      intro w1 hw1
      obtain ⟨pb, hpb⟩ : ∃ pb, pb = w.heap.size := ⟨_, rfl⟩
      have HX := hide (show Cells w1 pb [.slice la L.length lc, vD, .int .i64 next] by rw [hw1, hpb]; exact Cells.new _ _ _)
      have HB := hide (show Below w.heap.size w w1 by rw [hw1]; exact alloc_below _ _)
      rw [← hpb]
      clear hw1 hpb d1 d2
      obtain ⟨x0, -⟩ := HX.out.get 0 _ rfl
      go_wp2_with fail
      clear x0
      go_loopw [3, 19] (fun va vi wr => ∃ (k : Nat) (a : Int), va = .int .i64 a ∧ vi = .int .i64 (k : Int) ∧ k ≤ L.length ∧ R = okFrom a next (L.drop k) ∧ Below w1.heap.size w1 wr) (fun _ vi _ => L.length - (intOf vi).toNat)
      case atStart => exact ⟨0, 0, rfl, rfl, Nat.zero_le _, by simpa using HR.out, Below.refl _ _⟩
      case round =>
        obtain ⟨k, a, rfl, rfl, hk, hRk, hbk⟩ := hrel
        have HBw := hide (HB.out.trans (hbk.mono HB.out.size))
        obtain ⟨x2, -⟩ := (HX.out.below hbk).get 2 _ rfl
        by_cases hlt : k < L.length
        · obtain ⟨bl, off, ha, hbl, y0, y1, y2, y3⟩ := row_at HLI.out HBw.out hlt
          rw [List.drop_eq_getElem_cons hlt, okFrom_cons] at hRk
          obtain ⟨x, hx⟩ : ∃ x, x = L[k] := ⟨_, rfl⟩
          rw [← hx] at y0 y1 y2 y3 hRk
          clear hx
          subst ha
          obtain ⟨z1, z2, z3, z4⟩ := x
          simp only at y0 y1 y2 y3 hRk
          have b4 := alloc_below wr (.cells #[.int .i64 z1, .int .i64 z2, .bool z3, .bool z4] 58)
          obtain ⟨x2', -⟩ := ((HX.out.below hbk).below b4).get 2 _ rfl
          have HBK := hide (hbk.alloc hbk.size (.cells #[.int .i64 z1, .int .i64 z2, .bool z3, .bool z4] 58))
          have HBF := hide (HBw.out.alloc HBw.out.size (.cells #[.int .i64 z1, .int .i64 z2, .bool z3, .bool z4] 58))
          clear b4 hbk HBw x2
          by_cases c1 : a < z1
          · have e1 : decide (z1 ≤ a) = false := by simp; omega
            have f1 : decide (a < z1) = true := by simpa using c1
            by_cases c2 : z1 < next
            · have e2 : decide (next ≤ z1) = false := by simp; omega
              have f2 : decide (z1 < next) = true := by simpa using c2
              have K1 := fun w => KL z2 w
              cases c3 : isLsn z2 with
              | false =>
                have hF : R = false := by rw [hRk, c3]; simp
                rw [c3] at K1
                have HF := hide hF
                clear hRk hF c3 f1 f2
                go_wp2_with (go_at_call 45; refine (K1 _).mono ?_; rintro e wz ⟨rfl, rfl⟩)
                go_ret
                exact ⟨by rw [HF.out]; rfl, HBF.out⟩
              | true =>
                rw [c3] at K1
                cases z3 with
                | false =>
                  have hF : R = okFrom z1 next (L.drop (k + 1)) := by rw [hRk, c3, f1, f2]; simp
                  have HF := hide hF
                  clear hRk hF c3 f1 f2
                  go_wp2_with (go_at_call 45; refine (K1 _).mono ?_; rintro e wz ⟨rfl, rfl⟩)
                  go_roundw
                  case rel => exact ⟨k + 1, z1, rfl, by go_num, by omega, HF.out, HBK.out⟩
                  case measure => simp [intOf]; omega
                | true =>
                  cases z4 with
                  | false =>
                    have hF : R = okFrom z1 next (L.drop (k + 1)) := by rw [hRk, c3, f1, f2]; simp
                    have HF := hide hF
                    clear hRk hF c3 f1 f2
                    go_wp2_with (go_at_call 45; refine (K1 _).mono ?_; rintro e wz ⟨rfl, rfl⟩)
                    go_roundw
                    case rel => exact ⟨k + 1, z1, rfl, by go_num, by omega, HF.out, HBK.out⟩
                    case measure => simp [intOf]; omega
                  | true =>
                    have hF : R = false := by rw [hRk]; simp
                    have HF := hide hF
                    clear hRk hF c3 f1 f2
                    go_wp2_with (go_at_call 45; refine (K1 _).mono ?_; rintro e wz ⟨rfl, rfl⟩)
                    go_ret
                    exact ⟨by rw [HF.out]; rfl, HBF.out⟩
            · have e2 : decide (next ≤ z1) = true := by simp; omega
              have hF : R = false := by rw [hRk, show decide (z1 < next) = false by simpa using c2]; simp
              have HF := hide hF
              clear hRk hF f1
              go_wp2_with fail
              go_ret
              exact ⟨by rw [HF.out]; rfl, HBF.out⟩
          · have e1 : decide (z1 ≤ a) = true := by simp; omega
            have hF : R = false := by rw [hRk, show decide (a < z1) = false by simpa using c1]; simp
            have HF := hide hF
            clear hRk hF
            go_wp2_with fail
            go_ret
            exact ⟨by rw [HF.out]; rfl, HBF.out⟩
        · have hF : R = true := by rw [hRk, List.drop_eq_nil_of_le (by omega)]; rfl
          have HF := hide hF
          clear hRk hF hbk x2
          go_wp2_with fail
          go_ret
          exact ⟨by rw [HF.out]; rfl, HBw.out⟩
    · have d1 : decide (32 < L.length) = true := by simp; omega
      have d2 : decide ((32 : Int) < (L.length : Int)) = true := by simp; omega
      have d3 : decide (L.length ≤ 32) = false := by simpa using hl
      rw [d3, Bool.false_and] at hR
      subst hR
      clear d3
      go_enter Tryz.func60, Tryz.ntmps60
      go_wp2_with (go_at_call 43; refine (KN _).mono ?_; rintro e wz ⟨rfl, rfl⟩)
      go_ret
      exact ⟨rfl, alloc_below _ _⟩
set_option maxHeartbeats 4000000 in
theorem load_no (la : Option Addr) (lc : Nat) (vD : Value) (next : Int) (L : List Lv) (w : World) (hL : Lies w la (rowsC lvC L)) (hlm : L.length ≤ 9223372036854775807) (hno : loadOk L next = false) :
    Calls Tryz.prog 44 #[.agg #[.slice la L.length lc, vD, .int .i64 next]] w fun e w' => e = .returned (.tuple #[.pointer none, .int .i64 23]) ∧ Below w.heap.size w w' := by
  have b0 := alloc_below w (.cells #[.slice la L.length lc, vD, .int .i64 next] 53)
  have K := mayTable_any la lc vD next L _ (hL.below b0) hlm
  rw [hno] at K
  have B0 := hide b0
  clear b0 hno hL
  go_enter Tryz.func44, Tryz.ntmps44
  go_wp2_with fail
  refine K.mono ?_
  rintro e w2 ⟨rfl, hb⟩
  have HB := hide (B0.out.trans (hb.mono B0.out.size))
  clear hb
  go_wp2_with fail
  go_ret2
  exact ⟨rfl, HB.out⟩
theorem putM_take {L : List Lv} (hr : Rise L) {k : Nat} (hk : k < L.length) : putM L[k].tx (lvV L[k]) (prT (L.take k)) = prT (L.take (k + 1)) := by
  rw [List.take_succ_eq_append_getElem hk]
  refine putM_snoc (fun x hx => ?_)
  obtain ⟨j, hj, rfl⟩ := List.getElem_of_mem hx
  have hj' : j < k := by simp at hj; omega
  rw [List.getElem_take]
  exact (List.pairwise_iff_getElem.1 hr) j k (by omega) hk hj'
set_option maxHeartbeats 4000000 in
theorem load_yes (la : Option Addr) (lc : Nat) (vD : Value) (next : Int) (L : List Lv) (w : World) (hL : Lies w la (rowsC lvC L)) (hlm : L.length ≤ 9223372036854775807) (hno : loadOk L next = true) :
    Calls Tryz.prog 44 #[.agg #[.slice la L.length lc, vD, .int .i64 next]] w fun e w' => ∃ b m, e = .returned (.tuple #[ptr b, .int .i64 0]) ∧ PT w' b m ⟨L, next⟩ ∧ w.heap.size ≤ b ∧ w.heap.size ≤ m ∧ Below w.heap.size w w' := by
  have hmm := @run_makeMap Tryz.prog
  have hok := TbM.Ok.load hno
  have b0 := alloc_below w (.cells #[.slice la L.length lc, vD, .int .i64 next] 53)
  have K := mayTable_any la lc vD next L _ (hL.below b0) hlm
  rw [hno] at K
  have B0 := hide b0
  have HX0 := hide (Cells.new w #[.slice la L.length lc, vD, .int .i64 next] 53)
  have HLI := hide hL
  have HOK := hide hok
  clear b0 hno hL hok
  go_enter Tryz.func44, Tryz.ntmps44
  go_wp2_with fail
  refine K.mono ?_
  rintro e w2 ⟨rfl, hb⟩
  have HB2 := hide (B0.out.trans (hb.mono B0.out.size))
  have HX2 := hide (HX0.out.below hb)
  have HLO := hide HB2.out.size
  obtain ⟨pb, hpb⟩ : ∃ pb, pb = w.heap.size := ⟨_, rfl⟩
  rw [← hpb] at HX2 ⊢
  have HPB := hide hpb
  clear hpb
  obtain ⟨x2, -⟩ := (HX2.out.below (alloc_below w2 (.map #[] 0))).get 2 _ rfl
  clear hb B0 HX0 K
  go_upto_region 4 with fail
  refine named (P := Code.wp _ _ _ _) ?_
  intro w3 hw3
  obtain ⟨m, hm⟩ : ∃ m, m = w2.heap.size := ⟨_, rfl⟩
  obtain ⟨b, hbb⟩ : ∃ b, b = w2.heap.size + 1 := ⟨_, rfl⟩
  have HC := hide (show Cells w3 b [.map (some m), .int .i64 next] by
    rw [hw3, hbb, hm]
    have := Cells.new (w2.alloc (.map #[] 0)) #[.map (some w2.heap.size), .int .i64 next] 98
    simpa using this)
  have HM := hide (show AnyAt Tryz.prog 3 w3 m (prT (L.take 0)) by rw [hw3, hm]; exact anyAt_below (AnyAt.made Tryz.prog 3 w2) (alloc_below _ _))
  have HB3 := hide (show Below w.heap.size w w3 by rw [hw3]; exact (HB2.out.alloc HB2.out.size _).alloc (by have := HB2.out.size; simp; omega) _)
  have HX3 := hide (show Cells w3 pb [.slice la L.length lc, vD, .int .i64 next] by rw [hw3]; exact (HX2.out.below (alloc_below _ _)).below (alloc_below _ _))
  have NE := hide (show b ≠ m ∧ pb ≠ m ∧ w.heap.size ≤ b ∧ w.heap.size ≤ m ∧ m < w3.heap.size by rw [hw3]; have := HX2.out.1; have := HLO.out; have := HPB.out; simp; omega)
  rw [← hbb]
  clear hw3 hm hbb x2 HB2 HX2 hmm
  obtain ⟨x0, -⟩ := HX3.out.get 0 _ rfl
  go_wp2_with fail
  clear x0
  go_loopw [18] (fun vi wr => ∃ k : Nat, vi = .int .i64 (k : Int) ∧ k ≤ L.length ∧ AnyAt Tryz.prog 3 wr m (prT (L.take k)) ∧ Keep (fun z => z = m) w3 wr) (fun vi _ => L.length - (intOf vi).toNat)
  case atStart => exact ⟨0, rfl, Nat.zero_le _, HM.out, Keep.refl _ _⟩
  case round =>
    obtain ⟨k, rfl, hk, hA, hkp⟩ := hrel
    have HA := hide hA
    have HK := hide hkp
    clear hA hkp
    by_cases hlt : k < L.length
    · have b3 : Below w.heap.size w wr := HB3.out.trans (HK.out.below HB3.out.size (fun z hz q => by have := NE.out; omega))
      obtain ⟨bl, off, ha, hbl, y0, y1, y2, y3⟩ := row_at HLI.out b3 hlt
      have HX := hide (HOK.out.each L[k] (List.getElem_mem hlt))
      have HPT := hide (putM_take HOK.out.rise hlt)
      obtain ⟨x, hx⟩ : ∃ x, x = L[k] := ⟨_, rfl⟩
      rw [← hx] at y0 y1 y2 y3 HX HPT
      clear hx b3
      subst ha
      obtain ⟨z1, z2, z3, z4⟩ := x
      simp only at y0 y1 y2 y3
      go_upto_region 7 with fail
      refine named (P := Code.wp _ _ _ _) ?_
      intro w4 hw4
      obtain ⟨xb, hxb⟩ : ∃ xb, xb = wr.heap.size := ⟨_, rfl⟩
      have CX := hide (show Cells w4 xb [.int .i64 z1, .int .i64 z2, .bool z3, .bool z4] by rw [hw4, hxb]; exact Cells.new _ _ _)
      have A4 := hide (show AnyAt Tryz.prog 3 w4 m (prT (L.take k)) by rw [hw4]; exact anyAt_below HA.out (alloc_below _ _))
      have K4 := hide (show Keep (fun z => z = m) w3 w4 by rw [hw4]; exact HK.out.alloc _)
      have N4 := hide (show xb ≠ m by have := NE.out; have := HK.out.size; omega)
      rw [← hxb]
      clear hw4 hxb y0 y1 y2 y3 HA HK
      refine wp_region_held_drew (S := fun wq => Keep (fun z => z = m) w4 wq) (by kernel_rfl) (Keep.refl _ _).drew (fun hS => ?_)
      refine take_at 0 (some 22) (v := ?_) rfl rfl (by kernel_rfl) (by kernel_rfl) (by kernel_rfl) (fun _ _ _ h => h) ⟨by rfl, ?_⟩ hS ?_
      rotate_left
      · intro wq hSw; go_simp; try rfl
      simp only [Act.put, List.setIfInBounds_toArray, List.set_cons_zero, List.set_cons_succ]
      refine take_at 1 (some 23) (v := ?_) rfl rfl (by kernel_rfl) (by kernel_rfl) (by kernel_rfl) (fun _ _ _ h => h) ⟨by rfl, ?_⟩ hS ?_
      rotate_left
      · intro wq hSw; go_simp; try rfl
      simp only [Act.put, List.setIfInBounds_toArray, List.set_cons_zero, List.set_cons_succ]
      refine take_at 2 (some 24) (v := ?_) rfl rfl (by kernel_rfl) (by kernel_rfl) (by kernel_rfl) (fun _ _ _ h => h) ⟨by rfl, ?_⟩ hS ?_
      rotate_left
      · intro wq hSw; go_simp; try rfl
      simp only [Act.put, List.setIfInBounds_toArray, List.set_cons_zero, List.set_cons_succ]
      refine take_at 3 (some 25) (v := ?_) rfl rfl (by kernel_rfl) (by kernel_rfl) (by kernel_rfl) (fun _ _ _ h => h) ⟨by rfl, ?_⟩ hS ?_
      rotate_left
      · intro wq hSw; have q := ((HC.out.keep (K4.out.trans hSw (fun _ _ q => q)) NE.out.1).get 0 _ rfl).1; go_simp; try rfl
      simp only [Act.put, List.setIfInBounds_toArray, List.set_cons_zero, List.set_cons_succ]
      refine take_at 4 (some 26) (v := ?_) rfl rfl (by kernel_rfl) (by kernel_rfl) (by kernel_rfl) (fun _ _ _ h => h) ⟨by rfl, ?_⟩ hS ?_
      rotate_left
      · intro wq hSw; go_simp; try rfl
      simp only [Act.put, List.setIfInBounds_toArray, List.set_cons_zero, List.set_cons_succ]
      refine take_at 5 (some 27) (v := ?_) rfl rfl (by kernel_rfl) (by kernel_rfl) (by kernel_rfl) (fun _ _ _ h => h) ⟨by rfl, ?_⟩ hS ?_
      rotate_left
      · intro wq hSw; have q := ((CX.out.keep hSw N4.out).get 0 _ rfl).1; go_simp; try rfl
      simp only [Act.put, List.setIfInBounds_toArray, List.set_cons_zero, List.set_cons_succ]
      refine take_at 6 (some 28) (v := ?_) rfl rfl (by kernel_rfl) (by kernel_rfl) (by kernel_rfl) (fun _ _ _ h => h) ⟨by rfl, ?_⟩ hS ?_
      rotate_left
      · intro wq hSw; have qq := CX.out.keep hSw N4.out; obtain ⟨q0, _⟩ := qq.get 0 _ rfl; obtain ⟨q1, _⟩ := qq.get 1 _ rfl; obtain ⟨q2, _⟩ := qq.get 2 _ rfl; obtain ⟨q3, _⟩ := qq.get 3 _ rfl; clear qq; go_simp; try rfl
      simp only [Act.put, List.setIfInBounds_toArray, List.set_cons_zero, List.set_cons_succ]
      have hx64 : I64 z1 := by have h1 := HX.out.tx1; have h2 := HX.out.tx2; have h3 := HOK.out.n2; simp only at h1 h2 h3; unfold I64; omega
      obtain ⟨w5, hu, hAn, hgr⟩ := any_upd lawK Tryz.underlying96 (anyAt_below A4.out (Below.refl w4.heap.size w4).drew) (prT_up (List.Pairwise.sublist (List.take_sublist _ _) HOK.out.rise)) (keyI hx64) (by rw [prT_len]; have := HOK.out.few; simp only at this; simp; omega) (lvV ⟨z1, z2, z3, z4⟩)
      rw [HPT.out] at hAn
      have A5 := hide hAn
      have HU := hide hu
      have S2 := hide (hS.trans (keepM hgr) (fun _ _ q => q))
      have K5 := hide (K4.out.trans S2.out (fun _ _ q => q))
      clear hAn hu hgr hS
      refine wpAnyH_ready (rs := [7]) (by kernel_rfl) (by simp) ?_
      refine AllReadyH.cons rfl (fun K hK => ?_) AllReadyH.nil
      refine wp_upd (.tmp 25) (.tmp 27) (.tmp 28) rfl rfl rfl rfl rfl HU.out ?_
      refine hK.out _ _ S2.out (fun hS => ?_)
      clear hK K hS
      (try simp only [Act.put])
      refine wpAnyH_done (by kernel_rfl) ?_ _
      go_wp2_with fail
      go_roundw
      case rel => first | exact ⟨k + 1, by go_num, by omega, A5.out, K5.out⟩ | ((repeat apply Exists.intro); exact ⟨⟨k + 1, by go_num, by omega, A5.out, K5.out⟩, rfl⟩)
      case measure => simp [intOf]; omega
    · have hkl : k = L.length := by omega
      have HF := hide (show PT wr b m ⟨L, next⟩ from ⟨HC.out.keep HK.out NE.out.1, by have := HA.out; rw [hkl, List.take_length] at this; exact this, HOK.out⟩)
      have HBF := hide (HB3.out.trans (HK.out.below HB3.out.size (fun z hz q => by have := NE.out; omega)))
      clear hkl
      go_wp2_with fail
      go_ret2
      exact ⟨b, m, rfl, HF.out, NE.out.2.2.1, NE.out.2.2.2.1, HBF.out⟩
end Go.Proofs.YtblngphjoafidaaGreat
