import Derived.Test.YtblngphjoafidaaGreatXA
import Derived.Deep.DeepCutAuto
set_option linter.all false
namespace Go.Proofs.YtblngphjoafidaaGreat
open Go.RowKit Go.QK Go.Maps Go.QM Go.QT
set_option maxRecDepth 100000
/-! The document's Run, where it goes through. -/
theorem start_cases {rs : List RecM} {point : Int} {p : PassM} (h : startP rs point = some p) : (point = 0 ∧ p = pass0) ∨ ∃ q : Nat, ∃ hq : q < rs.length, point = (q : Int) + 1 ∧ rs[q].kind = 8 ∧ p = standP rs[q] := by
  unfold startP at h
  split at h
  · rename_i h0
    cases h
    exact .inl ⟨h0, rfl⟩
  · split at h
    · cases h
    · rename_i h0 h1
      obtain ⟨q, rfl⟩ : ∃ q : Nat, point = (q : Int) + 1 := ⟨(point - 1).toNat, by omega⟩
      have hq : q < rs.length := by omega
      have e2 : ((q : Int) + 1 - 1).toNat = q := by omega
      rw [e2, List.getElem?_eq_getElem hq] at h
      simp only at h
      split at h
      · rename_i h8
        cases h
        exact .inr ⟨q, hq, rfl, h8, rfl⟩
      · cases h
set_option maxHeartbeats 8000000 in
theorem rrun_go (xs : List RX) (a : Option Addr) (n c : Nat) (point : Int) (w : World) (h : RecsAt w a xs) (hn : n = xs.length) (hm : n ≤ 1000000) (hnil : ∀ x ∈ xs, x.la = none → x.lc = 0) (hF : faultE 1 (rsOf xs) = 0) (p0 : PassM) (hs : startP (rsOf xs) point = some p0) : Calls Tryz.prog 8 #[.slice a n c, .int .i64 point] w (RunPost w (rsOf xs) point) := by
  have KF := hide (fun w' (hq : Below w.heap.size w w') => right_any xs a c w' (h.below hq) (by omega))
  rw [← hn, hF] at KF
  have FE := hide hF
  have ln : (rsOf xs).length = n := by rw [List.length_map, hn]
  have LN := hide ln
  have HX := hide h
  have HN := hide hn
  have HM := hide hm
  have HNL := hide hnil
  have HS := hide hs
  have CS := hide (start_cases hs)
  clear h hn hF hm hs hnil ln
  obtain ⟨RU, hRU⟩ : ∃ R, R = RunPost w (rsOf xs) point := ⟨_, rfl⟩
  have HRU := hide hRU
  rw [← hRU]
  clear hRU
  go_enter Tryz.func8, Tryz.ntmps8
  go_upto_region 1 with fail
  refine named (P := Code.wp _ _ _ _) ?_
  intro w1 hw1
  obtain ⟨rb, hrb⟩ : ∃ xb, xb = w.heap.size := ⟨_, rfl⟩
  have bb := alloc_below w (.cells zero4 38)
  rw [← hw1] at bb
  have X1 := hide (show Cells w1 rb zero4.toList by rw [hw1, hrb]; exact Cells.new _ _ _)
  have B1 := hide bb
  have HR := hide (show w.heap.size ≤ rb by rw [hrb]; exact Nat.le_refl _)
  rw [← hrb]
  clear hw1 hrb bb
  go_upto_region 4 with (go_at_call 19; refine (KF.out _ B1.out).mono ?_; rintro e w2 ⟨rfl, hb2⟩)
  have B2 := hide (B1.out.trans (hb2.mono B1.out.size))
  have X2 := hide (X1.out.below hb2)
  clear hb2 B1 X1 KF
  go_upto_region 4 with fail
  go_cut [43] (fun s w' => s = .bool false ∧ w2 = w')
  case first =>
    rcases CS.out with ⟨rfl, -⟩ | ⟨q, hq, rfl, h8, -⟩
    · have d2 : decide ((n : Int) < 0) = false := decide_eq_false (by omega)
      go_wp2_with fail
      go_meet
      exact ⟨rfl, rfl⟩
    · have hqn : q < n := by rw [← LN.out]; exact hq
      have hqx : q < xs.length := by rw [← HN.out]; exact hqn
      obtain ⟨sb, so, rfl, slt, sel⟩ := Lies.rowAt rxC 17 (fun _ => rfl) (HX.out.below B2.out).row q hqx (by decide)
      have c1 := sel 1 _ rfl
      have k8 : xs[q].r.kind = 8 := by simpa [rsOf] using h8
      rw [k8] at c1
      have d1 : decide ((q : Int) + 1 < 0) = false := decide_eq_false (by omega)
      have d2 : decide ((n : Int) < (q : Int) + 1) = false := decide_eq_false (by omega)
      have d3 : decide (0 < (q : Int) + 1) = true := decide_eq_true (by omega)
      have i3 : wrap64 (q : Int) = (q : Int) := by have := HM.out; unfold wrap64; omega
      have i4 : IntKind.i64.wrap (q : Int) = (q : Int) := by rw [IntKind.wrap_i64]; have := HM.out; omega
      have b3 : (q : Int) < (n : Int) := by omega
      clear sel k8 slt h8
      go_wp2_with fail
      go_meet
      exact ⟨rfl, rfl⟩
  case rest =>
    obtain ⟨rfl, rfl⟩ := hcut
    have KN := hide (rnew_yes 1 w2 (by decide))
    go_upto_region 7 with (go_at_call 20; refine KN.out.mono ?_; rintro e w3 ⟨rfl, hrt, hb3, hz3⟩)
    obtain ⟨tb, htb⟩ : ∃ z, z = w2.heap.size := ⟨_, rfl⟩
    rw [← htb] at hrt ⊢
    have X3 := hide (X2.out.below hb3)
    have B3 := hide (B2.out.trans (hb3.mono B2.out.size))
    have RT3 := hide hrt
    have Z3 := hide (show w3.heap.size = tb + 1 by omega)
    have TL := hide (show w.heap.size ≤ tb by have := B2.out.size; omega)
    have NR := hide (show rb ≠ tb by have := X2.out.1; omega)
    clear hrt hb3 hz3 htb KN X2 B2
    go_upto_region 8 with fail
    refine named (P := Code.wp _ _ _ _) ?_
    intro w4 hw4
    obtain ⟨sb, hsb⟩ : ∃ z, z = w3.heap.size := ⟨_, rfl⟩
    have b34 : Below w3.heap.size w3 w4 := by rw [hw4]; exact alloc_below _ _
    have RN := hide (show Rn w w4 rb tb sb (.slice none 0 0) pass0 from ⟨X3.out.below b34, (RT3.out.below b34).mono TL.out, by rw [hw4, hsb]; exact Cells.new _ _ _, B3.out.trans (b34.mono B3.out.size), ⟨HR.out, by have := B3.out.size; omega⟩, ⟨by have := X3.out.1; omega, NR.out, by have := Z3.out; omega⟩, fun g hg => by cases hg⟩)
    rw [← hsb]
    clear hw4 hsb b34 X3 RT3 B3 Z3 TL NR HR
    go_upto_if 50 with fail
    go_cut [7] (fun v w' => ∃ tb tv, v = ptr tb ∧ Rn w w' rb tb sb tv p0)
    case first =>
      rcases CS.out with ⟨rfl, rfl⟩ | ⟨q, hq, rfl, h8, rfl⟩
      · go_wp2_with fail
        go_meet
        exact ⟨tb, _, rfl, RN.out⟩
      · have hqn : q < n := by rw [← LN.out]; exact hq
        have hqx : q < xs.length := by rw [← HN.out]; exact hqn
        have XI := hide (HX.out.each xs[q] (List.getElem_mem hqx))
        have NL := hide (HNL.out xs[q] (List.getElem_mem hqx))
        have GD := (fault_each FE.out q hq).2
        have e0 : (rsOf xs)[q] = xs[q].r := by simp [rsOf]
        rw [e0] at GD h8
        have E0 := hide e0
        have PT := hide (GD.pts h8)
        have RI := hide (GD.rise h8)
        obtain ⟨lb, so, rfl, slt, sel⟩ := Lies.rowAt rxC 17 (fun _ => rfl) (HX.out.below RN.out.be).row q hqx (by decide)
        have c14 := sel 14 _ rfl
        have c15 := sel 15 _ rfl
        have c16 := sel 16 _ rfl
        have i3 : wrap64 (q : Int) = (q : Int) := by have := HM.out; unfold wrap64; omega
        have i4 : IntKind.i64.wrap (q : Int) = (q : Int) := by rw [IntKind.wrap_i64]; have := HM.out; omega
        have b3 : (q : Int) < (n : Int) := by omega
        clear sel slt h8 GD e0
        generalize xs[q] = x at *
        obtain ⟨r, la, lc, da, dc⟩ := x
        simp only at c14 c15 c16 PT RI XI NL E0
        obtain ⟨nl, hnl⟩ : ∃ z, z = r.live.length := ⟨_, rfl⟩
        obtain ⟨nd, hnd⟩ : ∃ z, z = r.dirty.length := ⟨_, rfl⟩
        have KL := hide (fun (wz : World) (hb : Below w.heap.size w wz) => rload_yes la lc da nd dc r.next (r.live.map lvOf) wz (by rw [← cells_lv]; exact XI.out.li.below hb) (fun e => ⟨NL.out e, by
          have := XI.out.li
          rw [e] at this
          rcases this with q0 | ⟨b, o, q1, -⟩
          · rw [cells_lv] at q0
            have := congrArg List.length q0
            rw [rowsC_length lvC 4 (fun _ => rfl)] at this
            simp only [List.length_nil] at this
            omega
          · cases q1⟩) PT.out.load)
        rw [List.length_map, ← hnl] at KL
        rw [← hnl] at c14
        rw [← hnd] at c15
        have ND := hide hnd
        have n16 : nd ≤ 16 := by rw [hnd]; exact PT.out.less
        clear hnl hnd
        go_upto_region 10 with fail
        refine named (P := Code.wp _ _ _ _) ?_
        intro w5 hw5
        obtain ⟨pb, hpb⟩ : ∃ z, z = w4.heap.size := ⟨_, rfl⟩
        have P5 := hide (show Cells w5 pb [.slice la nl lc, .slice da nd dc, .int .i64 r.next] by rw [hw5, hpb]; exact Cells.new _ _ _)
        have b45 : Below w4.heap.size w4 w5 := by rw [hw5]; exact alloc_below _ _
        have R5 := hide (RN.out.below b45)
        have PS := hide (show pb ≠ sb by have := RN.out.sc.1; omega)
        have PW := hide (show w.heap.size ≤ pb by have := RN.out.be.size; omega)
        rw [← hpb]
        clear hw5 hpb b45 c14 c15 c16 i3 i4 b3 RN
        obtain ⟨y0, -⟩ := P5.out.get 0 _ rfl
        obtain ⟨y1, -⟩ := P5.out.get 1 _ rfl
        obtain ⟨y2, -⟩ := P5.out.get 2 _ rfl
        go_upto_region 11 with (go_at_call 21; refine (KL.out _ R5.out.be).mono ?_; rintro e w6 ⟨c6, v6, rfl, hrt6, hb6⟩)
        have P6 := hide (P5.out.below hb6)
        have R6 := hide (show Rn w w6 rb c6 sb v6 ⟨⟨r.live.map lvOf, r.next⟩, marks (fun _ => 0) (r.dirty.take 0)⟩ from by
          have o := R5.out.below hb6
          have s1 := R5.out.rc.1
          have s2 := R5.out.sc.1
          have s3 := hrt6.low
          have s4 := R5.out.be.size
          have rl := World.ownsRow.lt hrt6.row
          exact ⟨o.rc, hrt6.mono s4, o.sc, o.be, o.lo, ⟨o.ne.1, by omega, by omega⟩, fun g hg => by have := (rl g hg).1; constructor <;> omega⟩)
        clear hrt6 hb6 y0 y1 y2 KL P5 R5
        go_wp2_with fail
        go_loopw [11] (fun v wz => ∃ k : Nat, v = .int .i64 (k : Int) ∧ k ≤ nd ∧ Rn w wz rb c6 sb v6 ⟨⟨r.live.map lvOf, r.next⟩, marks (fun _ => 0) (r.dirty.take k)⟩ ∧ Cells wz pb [.slice la nl lc, .slice da nd dc, .int .i64 r.next]) (fun v _ => nd + 1 - (intOf v).toNat)
        case atStart => exact ⟨0, rfl, Nat.zero_le _, R6.out, P6.out⟩
        case round =>
          clear R6 P6
          obtain ⟨k, rfl, hk, hR, hP⟩ := hrel
          have RK := hide hR
          have PK := hide hP
          have y1 := (hP.get 1 _ rfl).1
          by_cases hkd : k < nd
          · have hkx : k < r.dirty.length := by rw [← ND.out]; exact hkd
            obtain ⟨db, do', rfl, dlt, c0, c1⟩ := XI.out.di.dirtyAt k hkx
            replace c0 := (hR.be.cell (p := _) dlt).trans c0
            replace c1 := (hR.be.cell (p := _) dlt).trans c1
            have MS := hide (marks_snoc (fun _ => 0) (r.dirty.take k) r.dirty[k])
            rw [← take_next' r.dirty k hkx] at MS
            have HO := hide (PT.out.dirty r.dirty[k] (List.getElem_mem hkx))
            obtain ⟨m, hmp⟩ : ∃ m : Nat, r.dirty[k].page = (m : Int) := ⟨r.dirty[k].page.toNat, by have := HO.out; omega⟩
            have m64 : m < 64 := by have := HO.out; omega
            have m64i : (m : Int) < 64 := by omega
            have FR := hide (marks_fresh RI.out hkx hmp)
            have DW := hide dlt
            rw [hmp] at c0 MS
            generalize r.dirty[k] = dd at *
            obtain ⟨dp, dsn⟩ := dd
            simp only at c0 c1 MS
            obtain ⟨M, hM⟩ : ∃ M, M = marks (fun _ => 0) (r.dirty.take k) := ⟨_, rfl⟩
            rw [← hM] at MS RK FR
            clear hM hR hP HO hmp
            have RM := hide (RK.out.mark m64 FR.out dsn)
            rw [← MS.out] at RM
            obtain ⟨z0, f0⟩ := RK.out.sc.2 m (by simp [sgC]; omega)
            go_upto_region 14 with fail
            refine wp_region_held_drew (S := fun wz => wz.cell? ⟨pb, 1, none⟩ = some (.slice (some ⟨db, do', none⟩) nd dc) ∧ wz.cell? ⟨db, do' + k * 2, none⟩ = some (.int .i64 (m : Int)) ∧ wz.cell? ⟨db, do' + k * 2 + 1, none⟩ = some (.int .i64 dsn)) (by kernel_rfl) ⟨y1, c0, c1⟩ (fun hS => ?_)
            have KD := show Keep (fun z => z = sb) wr.drew (wr.drew.setCell ⟨sb, m, none⟩ (.int .i64 dsn)) from (Keep.refl (fun z => z = sb) wr.drew).setCell (g := sb) (j := m) (fun _ => rfl) (.int .i64 dsn)
            have DR := show Below wr.heap.size wr wr.drew from (Below.refl _ _).drew
            have RD := hide (RK.out.below DR)
            have RM2 := hide (RD.out.mark m64 FR.out dsn)
            rw [← MS.out] at RM2
            have PM := hide ((PK.out.below DR).keep KD PS.out)
            obtain ⟨z0', f0'⟩ := RD.out.sc.2 m (by simp [sgC]; omega)
            have NS := hide (show db ≠ sb by have := DW.out; have := RK.out.lo.2; omega)
            have T1 := hide (KD.cell (p := ⟨db, do' + k * 2, none⟩) (Nat.lt_of_lt_of_le DW.out RD.out.be.size) NS.out)
            have T2 := hide (KD.cell (p := ⟨db, do' + k * 2 + 1, none⟩) (Nat.lt_of_lt_of_le DW.out RD.out.be.size) NS.out)
            clear DR KD z0 f0
            generalize wr.drew = y4 at *
            refine take_at 0 (some 69) (v := ?_) rfl rfl (by kernel_rfl) (by kernel_rfl) (by kernel_rfl) (fun _ _ _ h => h) ⟨by rfl, ?_⟩ hS ?_
            rotate_left
            · intro wz hSw; go_simp; try rfl
            simp only [Act.put, List.setIfInBounds_toArray, List.set_cons_zero, List.set_cons_succ]
            refine take_at 1 (some 70) (v := ?_) rfl rfl (by kernel_rfl) (by kernel_rfl) (by kernel_rfl) (fun _ _ _ h => h) ⟨by rfl, ?_⟩ hS ?_
            rotate_left
            · intro wz hSw; obtain ⟨s0, s1, s2⟩ := hSw; go_simp; try rfl
            simp only [Act.put, List.setIfInBounds_toArray, List.set_cons_zero, List.set_cons_succ]
            refine take_at 2 (some 71) (v := ?_) rfl rfl (by kernel_rfl) (by kernel_rfl) (by kernel_rfl) (fun _ _ _ h => h) ⟨by rfl, ?_⟩ hS ?_
            rotate_left
            · intro wz hSw; go_simp; try rfl
            simp only [Act.put, List.setIfInBounds_toArray, List.set_cons_zero, List.set_cons_succ]
            refine take_at 3 (some 72) (v := ?_) rfl rfl (by kernel_rfl) (by kernel_rfl) (by kernel_rfl) (fun _ _ _ h => h) ⟨by rfl, ?_⟩ hS ?_
            rotate_left
            · intro wz hSw; go_simp; try rfl
            simp only [Act.put, List.setIfInBounds_toArray, List.set_cons_zero, List.set_cons_succ]
            refine take_at 4 (some 73) (v := ?_) rfl rfl (by kernel_rfl) (by kernel_rfl) (by kernel_rfl) (fun _ _ _ h => h) ⟨by rfl, ?_⟩ hS ?_
            rotate_left
            · intro wz hSw; go_simp; try rfl
            simp only [Act.put, List.setIfInBounds_toArray, List.set_cons_zero, List.set_cons_succ]
            refine take_at 5 (some 74) (v := ?_) rfl rfl (by kernel_rfl) (by kernel_rfl) (by kernel_rfl) (fun _ _ _ h => h) ⟨by rfl, ?_⟩ hS ?_
            rotate_left
            · intro wz hSw; obtain ⟨s0, s1, s2⟩ := hSw; go_simp; try rfl
            simp only [Act.put, List.setIfInBounds_toArray, List.set_cons_zero, List.set_cons_succ]
            refine take_at 6 (some 75) (v := ?_) rfl rfl (by kernel_rfl) (by kernel_rfl) (by kernel_rfl) (fun _ _ _ h => h) ⟨by rfl, ?_⟩ hS ?_
            rotate_left
            · intro wz hSw; go_simp; try rfl
            simp only [Act.put, List.setIfInBounds_toArray, List.set_cons_zero, List.set_cons_succ]
            refine take_at 7 (some 76) (v := ?_) rfl rfl (by kernel_rfl) (by kernel_rfl) (by kernel_rfl) (fun _ _ _ h => h) ⟨by rfl, ?_⟩ hS ?_
            rotate_left
            · intro wz hSw; obtain ⟨s0, s1, s2⟩ := hSw; go_simp; try rfl
            simp only [Act.put, List.setIfInBounds_toArray, List.set_cons_zero, List.set_cons_succ]
            refine take_at 8 (some 77) (v := ?_) rfl rfl (by kernel_rfl) (by kernel_rfl) (by kernel_rfl) (fun _ _ _ h => h) ⟨by rfl, ?_⟩ hS ?_
            rotate_left
            · intro wz hSw; go_simp; try rfl
            simp only [Act.put, List.setIfInBounds_toArray, List.set_cons_zero, List.set_cons_succ]
            refine take_at 9 (some 78) (v := ?_) rfl rfl (by kernel_rfl) (by kernel_rfl) (by kernel_rfl) (fun _ _ _ h => h) ⟨by rfl, ?_⟩ hS ?_
            rotate_left
            · intro wz hSw; go_simp; try rfl
            simp only [Act.put, List.setIfInBounds_toArray, List.set_cons_zero, List.set_cons_succ]
            refine take_at 10 (some 79) (v := ?_) rfl rfl (by kernel_rfl) (by kernel_rfl) (by kernel_rfl) (fun _ _ _ h => h) ⟨by rfl, ?_⟩ hS ?_
            rotate_left
            · intro wz hSw; go_simp; try rfl
            simp only [Act.put, List.setIfInBounds_toArray, List.set_cons_zero, List.set_cons_succ]
            refine take_at 11 (some 80) (v := ?_) rfl rfl (by kernel_rfl) (by kernel_rfl) (by kernel_rfl) (fun _ _ _ h => h) ⟨by rfl, ?_⟩ hS ?_
            rotate_left
            · intro wz hSw; obtain ⟨s0, s1, s2⟩ := hSw; go_simp; try rfl
            simp only [Act.put, List.setIfInBounds_toArray, List.set_cons_zero, List.set_cons_succ]
            refine take_at 12 (some 81) (v := ?_) rfl rfl (by kernel_rfl) (by kernel_rfl) (by kernel_rfl) (fun _ _ _ h => h) ⟨by rfl, ?_⟩ hS ?_
            rotate_left
            · intro wz hSw; go_simp; try rfl
            simp only [Act.put, List.setIfInBounds_toArray, List.set_cons_zero, List.set_cons_succ]
            obtain ⟨s0, s1, s2⟩ := hS
            refine wpAnyH_ready (rs := [13]) (by kernel_rfl) (by simp) ?_
            refine AllReadyH.cons rfl (fun K hK => ?_) AllReadyH.nil
            go_simp
            go_wp2_with fail
            refine hK.out _ _ ⟨(PM.out.get 1 _ rfl).1, T1.out.trans s1, T2.out.trans s2⟩ (fun hS => ?_)
            clear hK K hS s0 s1 s2
            (try simp only [Act.put, List.setIfInBounds_toArray, List.set_cons_zero, List.set_cons_succ])
            refine wpAnyH_done (by kernel_rfl) ?_ _
            have RM := RM2
            go_wp2_with fail
            go_roundw
            case rel => exact ⟨k + 1, by go_num, by omega, RM.out, PM.out⟩
            case measure => simp [intOf]; omega
          · obtain rfl : k = nd := by omega
            have et : r.dirty.take k = r.dirty := by rw [ND.out, List.take_length]
            rw [et] at RK
            clear hR et
            go_wp2_with fail
            go_meet
            exact ⟨c6, v6, rfl, by rw [E0.out]; exact RK.out⟩
    case rest =>
      obtain ⟨tb2, tv2, rfl, hR⟩ := hcut
      have RN2 := hide hR
      obtain ⟨w6, rfl⟩ : ∃ z : World, z = wc := ⟨_, rfl⟩
      obtain ⟨k0, hpt, hk0⟩ : ∃ k0 : Nat, point = (k0 : Int) ∧ k0 ≤ n := by
        rcases CS.out with ⟨e, -⟩ | ⟨q, hq, e, -⟩
        · exact ⟨0, e, Nat.zero_le _⟩
        · exact ⟨q + 1, by rw [e]; rfl, by have := LN.out; omega⟩
      subst hpt
      obtain ⟨GO, hGO⟩ : ∃ G, G = goP p0 ((rsOf xs).drop k0) := ⟨_, rfl⟩
      have HGO := hide hGO
      clear hR RN CS hGO
      have hmm := HM.out
      go_wp2_with fail
      go_loopw [12] (fun v wz => ∃ (k : Nat) (tv : Value) (q : PassM), v = .int .i64 (k : Int) ∧ k ≤ n ∧ GO = goP q ((rsOf xs).drop k) ∧ Rn w wz rb tb2 sb tv q) (fun v _ => n + 1 - (intOf v).toNat)
      case atStart => exact ⟨k0, tv2, p0, rfl, hk0, HGO.out, RN2.out⟩
      case round =>
        clear RN2 tv2
        obtain ⟨k, tv, q, rfl, hk, hG, hR⟩ := hrel
        obtain ⟨w7, rfl⟩ : ∃ z : World, z = wr := ⟨_, rfl⟩
        have RK := hide hR
        clear hR
        by_cases hkn : k < n
        · have hkx : k < xs.length := by rw [← HN.out]; exact hkn
          have hkr : k < (rsOf xs).length := by rw [LN.out]; exact hkn
          rw [goP_drop hkr] at hG
          have e0 : (rsOf xs)[k] = xs[k].r := by simp [rsOf]
          have GD := (fault_each FE.out k hkr).2
          rw [e0] at hG GD
          have XI := hide (HX.out.each xs[k] (List.getElem_mem hkx))
          obtain ⟨lb, so, rfl, slt, sel⟩ := Lies.rowAt rxC 17 (fun _ => rfl) HX.out.row k hkx (by decide)
          have HG := hide hG
          have PGI := hide (pages_in GD)
          have GDH := hide GD
          clear hG e0 GD
          generalize xs[k] = x at *
          obtain ⟨RA, hRA⟩ : ∃ A, A = rxA x := ⟨_, rfl⟩
          have SR := hide (show RA.size = 17 by rw [hRA]; rfl)
          have RC := hide (show ∀ wz, Below w.heap.size w wz → ∀ j v, RA.toList[j]? = some v → wz.cell? ⟨lb, so + k * 17 + j, none⟩ = some v from fun wz hb j v hv => by rw [hRA] at hv; exact (hb.cell (p := ⟨lb, so + k * 17 + j, none⟩) slt).trans (sel j v hv))
          have C0 := hide (show ∀ wz, Below w.heap.size w wz → wz.cell? ⟨lb, so + k * 17, none⟩ = some (.int .i64 x.r.lsn) from fun wz hb => (hb.cell (p := ⟨lb, so + k * 17, none⟩) slt).trans (sel 0 _ rfl))
          have KN := hide (rnote_any w.heap.size tb2 tv q.tb RA x.r.lsn x.r.kind x.r.tx x.r.prev w7 RK.out.rt (by rw [hRA]; exact recA_of x XI.out.tx))
          have KP := hide (fun wz => rpages_any x wz)
          rw [← hRA] at KP
          have LBW := hide (show lb < w.heap.size from slt)
          clear hRA sel slt
          have rc7 := RC.out _ RK.out.be
          obtain ⟨E, hE⟩ : ∃ E, E = q.tb.noteE x.r.lsn x.r.kind x.r.tx x.r.prev := ⟨_, rfl⟩
          unfold RNPost at KN
          rw [← hE] at KN
          have HE := hide (show q.noteE x.r = E from hE.symm)
          clear hE
          rw [HE.out] at HG
          go_upto_if 95 with (first | refine wpList_ld46At rc7 SR.out rfl ?_ | (go_at_call 22; refine KN.out.mono ?_; rintro e w8 ⟨rfl, hrp⟩))
          clear rc7
          obtain ⟨tv', hR8⟩ := RK.out.noted (t := q.tb) (s := q.pg) hrp
          have R8 := hide hR8
          clear hR8 hrp KN RK
          by_cases hE0 : E = 0
          · have e1 : (E != 0) = false := by simpa using hE0
            rw [if_pos hE0] at HG
            have PM := hide (pages_marks x q.pg)
            clear hE0
            have rc8 := RC.out _ R8.out.be
            go_upto_region 21 with (first | refine wpList_ld46At rc8 SR.out rfl ?_ | (go_at_call 23; refine (KP.out _).mono ?_; rintro e w9 ⟨pv, rfl, hpr, hb9⟩))
            clear rc8
            obtain ⟨pa, pc, rfl, plies, -⟩ := GRow.lies hpr
            have R9 := hide (R8.out.below hb9)
            have PR9 := hide hpr
            have PNE := hide (show ∀ g, (Value.slice pa (pagesL x).length pc).ownBlock = some g → g ≠ sb from fun g hg e => by have := (World.ownsRow.lt hpr g hg).1; have := R8.out.sc.1; omega)
            clear plies hb9 hpr R8
            obtain ⟨ps, hps⟩ : ∃ ps, ps = pagesL x := ⟨_, rfl⟩
            rw [← hps] at PR9 PNE PM PGI ⊢
            clear hps
            have np2 := PGI.out.2
            obtain ⟨nps, hnps⟩ : ∃ z, z = ps.length := ⟨_, rfl⟩
            rw [← hnps] at PR9 PNE np2 ⊢
            have NP := hide hnps
            clear hnps
            obtain ⟨t', ht'⟩ : ∃ z, z = q.tb.noteT x.r.lsn x.r.kind x.r.tx x.r.prev := ⟨_, rfl⟩
            rw [← ht'] at R9
            have QS := hide (show q.step x.r = ⟨t', stepPg q.pg x.r⟩ by rw [ht']; rfl)
            obtain ⟨ls, hls⟩ : ∃ z, z = x.r.lsn := ⟨_, rfl⟩
            rw [← hls] at PM C0
            clear ht' hls
            go_wp2_with fail
            go_loopw [14] (fun v wz => ∃ j : Nat, v = .int .i64 (j : Int) ∧ j ≤ nps ∧ Rn w wz rb tb2 sb tv' ⟨t', markP q.pg ls (ps.take j)⟩ ∧ GRow wz w8.heap.size 3 1 (.slice pa nps pc) nps (rowsC iC ps)) (fun v _ => nps + 1 - (intOf v).toNat)
            case atStart => exact ⟨0, rfl, Nat.zero_le _, R9.out, PR9.out⟩
            case round =>
              clear R9 PR9
              obtain ⟨j, rfl, hj, hR, hP⟩ := hrel
              obtain ⟨w10, rfl⟩ : ∃ z : World, z = wr := ⟨_, rfl⟩
              have RJ := hide hR
              have PJ := hide hP
              by_cases hjn : j < nps
              · have hjx : j < ps.length := by rw [← NP.out]; exact hjn
                obtain ⟨pa0, pc0, e0, plies, -⟩ := GRow.lies hP
                simp only [Value.slice.injEq] at e0
                obtain ⟨rfl, -, -⟩ := e0
                obtain ⟨gb, go', rfl, glt, gsel⟩ := plies.rowAt iC 1 (fun _ => rfl) j hjx (by decide)
                have p0' := gsel 0 _ rfl
                simp only [Nat.mul_one, Nat.add_zero] at p0'
                have inr := PGI.out.1 _ (List.getElem_mem hjx)
                obtain ⟨m, hmp⟩ : ∃ m : Nat, ps[j] = (m : Int) := ⟨ps[j].toNat, by omega⟩
                have m64 : m < 64 := by omega
                have m64i : (m : Int) < 64 := by omega
                have MS := hide (markP_snoc q.pg ls (ps.take j) ps[j])
                rw [← take_next' ps j hjx] at MS
                rw [hmp] at p0' MS
                obtain ⟨M, hM⟩ : ∃ M, M = markP q.pg ls (ps.take j) := ⟨_, rfl⟩
                rw [← hM] at MS RJ hR
                have z0 := (hR.sc.get m _ (sgC_get M m64)).1
                have y0 := C0.out _ hR.be
                clear hM plies gsel inr hmp hP
                by_cases h0 : M m = 0
                · rw [h0] at z0
                  have BE := hide hR.be
                  clear hR
                  go_upto_region 25 with fail
                  refine wp_region_held_drew (S := fun wz => wz.cell? ⟨gb, go' + j, none⟩ = some (.int .i64 (m : Int)) ∧ wz.cell? ⟨lb, so + k * 17, none⟩ = some (.int .i64 ls)) (by kernel_rfl) ⟨p0', y0⟩ (fun hS => ?_)
                  have DR := show Below w10.heap.size w10 w10.drew from (Below.refl _ _).drew
                  have KD := show Keep (fun z => z = sb) w10.drew (w10.drew.setCell ⟨sb, m, none⟩ (.int .i64 ls)) from (Keep.refl (fun z => z = sb) w10.drew).setCell (g := sb) (j := m) (fun _ => rfl) (.int .i64 ls)
                  have RD := hide (RJ.out.below DR)
                  have RM2 := hide (RD.out.mark m64 h0 ls)
                  have PM2 := hide (GRow.keep (GRow.below PJ.out DR) KD (fun g hg => PNE.out g hg))
                  obtain ⟨z0', f0'⟩ := RD.out.sc.get m _ (sgC_get M m64)
                  have NS := hide (show lb ≠ sb by have := LBW.out; have := RJ.out.lo.2; omega)
                  have NG := hide (show gb ≠ sb by
                    obtain ⟨a9, c9, e9, -, -, -, -, hof⟩ := GRow.lies PJ.out
                    simp only [Value.slice.injEq] at e9
                    obtain ⟨rfl, -, -⟩ := e9
                    obtain ⟨o0, -⟩ := hof _ rfl
                    simp only at o0
                    exact PNE.out gb (by rw [o0]; rfl))
                  have T1 := hide (KD.cell (p := ⟨gb, go' + j, none⟩) (show gb < w10.drew.heap.size from glt) NG.out)
                  have T2 := hide (KD.cell (p := ⟨lb, so + k * 17, none⟩) (Nat.lt_of_lt_of_le LBW.out RD.out.be.size) NS.out)
                  clear DR KD z0 p0' y0
                  generalize w10.drew = y5 at *
                  refine take_at 0 (some 115) (v := ?_) rfl rfl (by kernel_rfl) (by kernel_rfl) (by kernel_rfl) (fun _ _ _ h => h) ⟨by rfl, ?_⟩ hS ?_
                  rotate_left
                  · intro wz hSw; go_simp; try rfl
                  simp only [Act.put, List.setIfInBounds_toArray, List.set_cons_zero, List.set_cons_succ]
                  refine take_at 1 (some 116) (v := ?_) rfl rfl (by kernel_rfl) (by kernel_rfl) (by kernel_rfl) (fun _ _ _ h => h) ⟨by rfl, ?_⟩ hS ?_
                  rotate_left
                  · intro wz hSw; go_simp; try rfl
                  simp only [Act.put, List.setIfInBounds_toArray, List.set_cons_zero, List.set_cons_succ]
                  refine take_at 2 (some 117) (v := ?_) rfl rfl (by kernel_rfl) (by kernel_rfl) (by kernel_rfl) (fun _ _ _ h => h) ⟨by rfl, ?_⟩ hS ?_
                  rotate_left
                  · intro wz hSw; go_simp; try rfl
                  simp only [Act.put, List.setIfInBounds_toArray, List.set_cons_zero, List.set_cons_succ]
                  refine take_at 3 (some 118) (v := ?_) rfl rfl (by kernel_rfl) (by kernel_rfl) (by kernel_rfl) (fun _ _ _ h => h) ⟨by rfl, ?_⟩ hS ?_
                  rotate_left
                  · intro wz hSw; obtain ⟨s0, s1⟩ := hSw; go_simp; try rfl
                  simp only [Act.put, List.setIfInBounds_toArray, List.set_cons_zero, List.set_cons_succ]
                  refine take_at 4 (some 119) (v := ?_) rfl rfl (by kernel_rfl) (by kernel_rfl) (by kernel_rfl) (fun _ _ _ h => h) ⟨by rfl, ?_⟩ hS ?_
                  rotate_left
                  · intro wz hSw; go_simp; try rfl
                  simp only [Act.put, List.setIfInBounds_toArray, List.set_cons_zero, List.set_cons_succ]
                  refine take_at 5 (some 120) (v := ?_) rfl rfl (by kernel_rfl) (by kernel_rfl) (by kernel_rfl) (fun _ _ _ h => h) ⟨by rfl, ?_⟩ hS ?_
                  rotate_left
                  · intro wz hSw; go_simp; try rfl
                  simp only [Act.put, List.setIfInBounds_toArray, List.set_cons_zero, List.set_cons_succ]
                  refine take_at 6 (some 121) (v := ?_) rfl rfl (by kernel_rfl) (by kernel_rfl) (by kernel_rfl) (fun _ _ _ h => h) ⟨by rfl, ?_⟩ hS ?_
                  rotate_left
                  · intro wz hSw; go_simp; try rfl
                  simp only [Act.put, List.setIfInBounds_toArray, List.set_cons_zero, List.set_cons_succ]
                  refine take_at 7 (some 122) (v := ?_) rfl rfl (by kernel_rfl) (by kernel_rfl) (by kernel_rfl) (fun _ _ _ h => h) ⟨by rfl, ?_⟩ hS ?_
                  rotate_left
                  · intro wz hSw; go_simp; try rfl
                  simp only [Act.put, List.setIfInBounds_toArray, List.set_cons_zero, List.set_cons_succ]
                  refine take_at 8 (some 123) (v := ?_) rfl rfl (by kernel_rfl) (by kernel_rfl) (by kernel_rfl) (fun _ _ _ h => h) ⟨by rfl, ?_⟩ hS ?_
                  rotate_left
                  · intro wz hSw; obtain ⟨s0, s1⟩ := hSw; go_simp; try rfl
                  simp only [Act.put, List.setIfInBounds_toArray, List.set_cons_zero, List.set_cons_succ]
                  refine take_at 9 (some 124) (v := ?_) rfl rfl (by kernel_rfl) (by kernel_rfl) (by kernel_rfl) (fun _ _ _ h => h) ⟨by rfl, ?_⟩ hS ?_
                  rotate_left
                  · intro wz hSw; go_simp; try rfl
                  simp only [Act.put, List.setIfInBounds_toArray, List.set_cons_zero, List.set_cons_succ]
                  obtain ⟨s0, s1⟩ := hS
                  refine wpAnyH_ready (rs := [10]) (by kernel_rfl) (by simp) ?_
                  refine AllReadyH.cons rfl (fun K hK => ?_) AllReadyH.nil
                  go_simp
                  go_wp2_with fail
                  refine hK.out _ _ ⟨T1.out.trans s0, T2.out.trans s1⟩ (fun hS => ?_)
                  clear hK K hS s0 s1
                  (try simp only [Act.put, List.setIfInBounds_toArray, List.set_cons_zero, List.set_cons_succ])
                  refine wpAnyH_done (by kernel_rfl) ?_ _
                  go_wp2_with fail
                  go_roundw
                  case rel => exact ⟨j + 1, by go_num, by omega, by rw [MS.out]; exact RM2.out, PM2.out⟩
                  case measure => simp [intOf]; omega
                · obtain ⟨v0, hv0⟩ : ∃ v, v = M m := ⟨_, rfl⟩
                  rw [← hv0] at z0
                  have e2 : (v0 == 0) = false := by rw [hv0]; simpa using h0
                  have MS2 := hide (MS.out.trans (mark_same h0 ls))
                  clear hR hv0 h0
                  go_wp2_with fail
                  go_roundw
                  case rel => exact ⟨j + 1, by go_num, by omega, by rw [MS2.out]; exact RJ.out, PJ.out⟩
                  case measure => simp [intOf]; omega
              · obtain rfl : j = nps := by omega
                have et : ps.take j = ps := by rw [NP.out, List.take_length]
                rw [et, PM.out] at RJ
                clear hR hP et
                go_wp2_with fail
                go_roundw
                case rel => exact ⟨k + 1, tv', q.step x.r, by go_num, by omega, HG.out, by rw [QS.out]; exact RJ.out⟩
                case measure => simp [intOf]; omega
          · have e1 : (E != 0) = true := by simpa using hE0
            rw [if_neg hE0] at HG
            have RE := hide (show runE (rsOf xs) (k0 : Int) = 60 by
              unfold runE
              rw [if_pos FE.out, HS.out]
              show (match goP p0 ((rsOf xs).drop ((k0 : Int)).toNat) with | some _ => (0 : Int) | none => 60) = 60
              rw [show ((k0 : Int)).toNat = k0 by omega, ← HGO.out, HG.out])
            have RF := hide (show runF (rsOf xs) (k0 : Int) = zeroF from runF_bad (by rw [RE.out]; decide))
            obtain ⟨z0, f0⟩ := R8.out.rc.get 0 _ rfl
            obtain ⟨z1, f1⟩ := R8.out.rc.get 1 _ rfl
            obtain ⟨z2, f2⟩ := R8.out.rc.get 2 _ rfl
            obtain ⟨z3, f3⟩ := R8.out.rc.get 3 _ rfl
            have lo := R8.out.lo.1
            clear hE0
            go_wp2_with fail
            refine bodyPost_ret (v := .tuple #[.agg (fdA (.slice none 0 0) (.slice none 0 0) zeroF), .int .i64 60]) (by simp [results, Tryz.results8, go_sem, z0, z1, z2, z3, zeroF]) rfl ?_
            rw [HRU.out]
            unfold RunPost
            rw [RE.out, RF.out]
            exact ⟨_, _, rfl, FoundOut.zero ((((R8.out.be.setCell lo _).setCell lo _).setCell lo _).setCell lo _)⟩
        · obtain rfl : k = n := by omega
          have hG2 : GO = some q := by rw [hG, List.drop_eq_nil_of_le (by rw [LN.out]; exact Nat.le_refl _)]; rfl
          have tn : ((k0 : Int)).toNat = k0 := by omega
          have RE := hide (show runE (rsOf xs) (k0 : Int) = 0 by
            unfold runE
            rw [if_pos FE.out, HS.out]
            show (match goP p0 ((rsOf xs).drop ((k0 : Int)).toNat) with | some _ => (0 : Int) | none => 60) = 0
            rw [tn, ← HGO.out, hG2])
          have RF := hide (show runF (rsOf xs) (k0 : Int) = q.found by
            unfold runF
            rw [if_pos RE.out]
            unfold runO
            rw [HS.out]
            show (match goP p0 ((rsOf xs).drop ((k0 : Int)).toNat) with | some p => p.found | none => zeroF) = q.found
            rw [tn, ← HGO.out, hG2])
          have KLV := hide (rlive_any w.heap.size tb2 tv q.tb w7 RK.out.rt)
          have HQF := hide (show q.found = ⟨q.tb.L, toldL q.pg 64, leastL q.pg 64, q.tb.next⟩ from rfl)
          clear hG hG2 tn HGO
          obtain ⟨QT, hQT⟩ : ∃ z, z = q.tb := ⟨_, rfl⟩
          obtain ⟨QP, hQP⟩ : ∃ z, z = q.pg := ⟨_, rfl⟩
          have RK2 := hide (show Rn w w7 rb tb2 sb tv ⟨QT, QP⟩ by rw [hQT, hQP]; exact RK.out)
          rw [← hQT] at KLV HQF
          rw [← hQP] at HQF
          clear hQT hQP RK
          go_wp2_with fail
          refine KLV.out.mono ?_
          rintro e w8 ⟨vL, rfl, hlr, hb8⟩
          obtain ⟨la, lcp, rfl, -⟩ := GRow.lies hlr
          have R8 := hide (RK2.out.below hb8)
          have KNX := hide (rnext_any w.heap.size tb2 tv QT w8 R8.out.rt)
          have LR8 := hide hlr
          have W78 := hide (show w.heap.size ≤ w7.heap.size from RK2.out.be.size)
          have LS := hide (World.ownsRow.lt hlr)
          have S7 := hide (And.intro RK2.out.sc.1 RK2.out.rc.1)
          clear hlr hb8 KLV RK2
          go_wp2_with fail
          refine KNX.out.mono ?_
          rintro e w9 ⟨rfl, rfl⟩
          clear KNX
          obtain ⟨VL, hVL⟩ : ∃ z, z = QT.L.length := ⟨_, rfl⟩
          rw [← hVL] at LR8 LS ⊢
          have HVL := hide hVL
          clear hVL
          obtain ⟨nx, hnx⟩ : ∃ z, z = QT.next := ⟨_, rfl⟩
          rw [← hnx] at HQF ⊢
          clear hnx
          go_upto_region 27 with fail
          refine named (P := Code.wp _ _ _ _) ?_
          intro w10 hw10
          obtain ⟨fb, hfb⟩ : ∃ z, z = w8.heap.size := ⟨_, rfl⟩
          have b810 : Below w8.heap.size w8 w10 := by rw [hw10]; exact alloc_below _ _
          have FD := hide (show Fd w w10 rb sb fb (.slice la VL lcp) (.slice none 0 0) QT.L QP (toldL QP 0) (leastL QP 0) nx from by
            have s1 := R8.out.rc.1
            have s2 := R8.out.sc.1
            have s3 := R8.out.be.size
            have s7 := S7.out
            have bx := R8.out.below b810
            refine ⟨by rw [hw10, hfb]; exact Cells.new _ _ _, by rw [← HVL.out]; exact GRow.below (GRow.mono LR8.out W78.out) b810, World.ownsRow_nil _ _ _ _, bx.sc, bx.rc, bx.be, ⟨by omega, R8.out.lo.1⟩, ⟨by omega, by omega, R8.out.ne.1⟩, fun g hg => ?_, fun g hg => by cases hg⟩
            have := LS.out g hg
            exact ⟨by omega, by omega, by omega⟩)
          rw [← hfb]
          clear hw10 hfb b810 R8 LR8 LS S7 W78
          go_wp2_with fail
          go_loopw [16] (fun v wz => ∃ (j : Nat) (vD : Value), v = .int .i64 (j : Int) ∧ j ≤ 64 ∧ Fd w wz rb sb fb (.slice la VL lcp) vD QT.L QP (toldL QP j) (leastL QP j) nx) (fun v _ => 65 - (intOf v).toNat)
          case atStart => exact ⟨0, _, rfl, by omega, FD.out⟩
          case round =>
            clear FD
            obtain ⟨j, vD, rfl, hj, hF⟩ := hrel
            obtain ⟨w11, rfl⟩ : ∃ z : World, z = wr := ⟨_, rfl⟩
            obtain ⟨da, dcp, rfl, -⟩ := GRow.lies hF.dr
            have FJ := hide hF
            by_cases hj64 : j < 64
            · have j64i : (j : Int) < 64 := by omega
              obtain ⟨y, hy⟩ : ∃ y, y = QP j := ⟨_, rfl⟩
              have z0 := (hF.sc.get j _ (sgC_get QP hj64)).1
              rw [← hy] at z0
              have TL := hide (told_len2 QP j)
              have LST := hide (least_step QP j)
              rw [← hy] at LST
              clear hF
              by_cases h0 : y = 0
              · obtain ⟨sk1, sk2⟩ := told_skip (s := QP) (k := j) (by rw [← hy]; exact h0)
                have SK := hide (show Fd w w11 rb sb fb (.slice la VL lcp) (.slice da (toldL QP j).length dcp) QT.L QP (toldL QP (j + 1)) (leastL QP (j + 1)) nx by rw [sk1, sk2]; exact FJ.out)
                subst h0
                clear sk1 sk2
                go_wp2_with fail
                go_roundw
                case rel => exact ⟨j + 1, _, by go_num, by omega, SK.out⟩
                case measure => simp [intOf]; omega
              · have e1 : (y == 0) = false := by simpa using h0
                have TM := hide (told_more hy.symm h0)
                obtain ⟨l, hl⟩ : ∃ z, z = leastL QP j := ⟨_, rfl⟩
                rw [← hl] at FJ LST
                obtain ⟨DD, hDD⟩ : ∃ z, z = toldL QP j := ⟨_, rfl⟩
                rw [← hDD] at FJ TM TL
                obtain ⟨dn, hdn⟩ : ∃ z, z = DD.length := ⟨_, rfl⟩
                have SC := hide (fun (wz : World) (h : Cells wz sb (sgC QP)) => (show wz.cell? ⟨sb, j, none⟩ = some (.int .i64 y) by rw [hy]; exact (h.get j _ (sgC_get QP hj64)).1))
                have HDN := hide hdn
                clear hl hy hDD hdn
                go_upto_region 31 with fail
                go_cut [] from 130 to 162 (fun w' => ∃ an cn, Fd w w' rb sb fb (.slice la VL lcp) (.slice an (DD.length + 1) cn) QT.L QP (DD ++ [⟨(j : Int), y⟩]) l nx)
                case first =>
                  have DR := show Below w11.heap.size w11 w11.drew from (Below.refl _ _).drew
                  have FY := hide (FJ.out.below DR)
                  refine wp_region_held_drew (S := fun wz => wz.cell? ⟨sb, j, none⟩ = some (.int .i64 y)) (by kernel_rfl) z0 (fun hS => ?_)
                  clear DR
                  generalize w11.drew = y6 at *
                  obtain ⟨an, cn, x4, hrun, ⟨c1, f1⟩, hF4, hsc4⟩ := FY.out.push (by have := TL.out; omega) (j : Int) y 60 32
                  have HRR := hide hrun
                  have y1 := (FY.out.fc.get 1 _ rfl).1
                  have al := alloc_below y6 (.cells #[.int .i64 (j : Int), .int .i64 y] 60)
                  have y1a := ((FY.out.fc.below al).get 1 _ rfl).1
                  have sa := SC.out _ (FY.out.sc.below al)
                  have s4 := SC.out _ hsc4
                  have s5 := SC.out _ hF4.sc
                  have HF4 := hide hF4
                  clear hrun al hsc4 hF4
                  refine take_at 0 (some 138) (v := ?_) rfl rfl (by kernel_rfl) (by kernel_rfl) (by kernel_rfl) (fun _ _ _ h => h) ⟨by rfl, ?_⟩ hS ?_
                  rotate_left
                  · intro wz hSw; go_simp; try rfl
                  simp only [Act.put, List.setIfInBounds_toArray, List.set_cons_zero, List.set_cons_succ]
                  refine take_at 2 (some 140) (v := ?_) rfl rfl (by kernel_rfl) (by kernel_rfl) (by kernel_rfl) (fun _ _ _ h => h) ⟨by rfl, ?_⟩ hS ?_
                  rotate_left
                  · intro wz hSw; go_simp; try rfl
                  simp only [Act.put, List.setIfInBounds_toArray, List.set_cons_zero, List.set_cons_succ]
                  refine take_at 3 (some 141) (v := ?_) rfl rfl (by kernel_rfl) (by kernel_rfl) (by kernel_rfl) (fun _ _ _ h => h) ⟨by rfl, ?_⟩ hS ?_
                  rotate_left
                  · intro wz hSw; go_simp; try rfl
                  simp only [Act.put, List.setIfInBounds_toArray, List.set_cons_zero, List.set_cons_succ]
                  refine take_at 4 (some 142) (v := ?_) rfl rfl (by kernel_rfl) (by kernel_rfl) (by kernel_rfl) (fun _ _ _ h => h) ⟨by rfl, ?_⟩ hS ?_
                  rotate_left
                  · intro wz hSw; go_simp; try rfl
                  simp only [Act.put, List.setIfInBounds_toArray, List.set_cons_zero, List.set_cons_succ]
                  refine take_at 5 (some 143) (v := ?_) rfl rfl (by kernel_rfl) (by kernel_rfl) (by kernel_rfl) (fun _ _ _ h => h) ⟨by rfl, ?_⟩ hS ?_
                  rotate_left
                  · intro wz hSw; go_simp; try rfl
                  simp only [Act.put, List.setIfInBounds_toArray, List.set_cons_zero, List.set_cons_succ]
                  refine take_at 6 (some 144) (v := ?_) rfl rfl (by kernel_rfl) (by kernel_rfl) (by kernel_rfl) (fun _ _ _ h => h) ⟨by rfl, ?_⟩ hS ?_
                  rotate_left
                  · intro wz hSw; go_simp; try rfl
                  simp only [Act.put, List.setIfInBounds_toArray, List.set_cons_zero, List.set_cons_succ]
                  refine wpAnyH_ready (rs := [1, 7]) (by kernel_rfl) (by simp) ?_
                  refine AllReadyH.cons rfl (fun K hK => ?_) (AllReadyH.cons rfl (fun K hK => ?_) AllReadyH.nil)
                  · go_simp
                    go_wp2_with fail
                    refine hK.out _ _ hS (fun hS => ?_)
                    clear hK K
                    (try simp only [Act.put, List.setIfInBounds_toArray, List.set_cons_zero, List.set_cons_succ])
                    refine wpAnyH_ready (rs := [7]) (by kernel_rfl) (by simp) ?_
                    refine AllReadyH.cons rfl (fun K hK => ?_) AllReadyH.nil
                    go_simp
                    go_wp2_with fail
                    refine hK.out _ _ sa (fun hS => ?_)
                    clear hK K
                    (try simp only [Act.put, List.setIfInBounds_toArray, List.set_cons_zero, List.set_cons_succ])
                    refine wpAnyH_ready (rs := [8]) (by kernel_rfl) (by simp) ?_
                    refine AllReadyH.cons rfl (fun K hK => ?_) AllReadyH.nil
                    refine wp_run 146 (.tmp 139) (.tmp 145) rfl rfl rfl rfl rfl HRR.out ?_
                    refine hK.out _ _ s4 (fun hS => ?_)
                    clear hK K
                    (try simp only [Act.put, List.setIfInBounds_toArray, List.set_cons_zero, List.set_cons_succ])
                    refine take_at 9 (some 147) (v := ?_) rfl rfl (by kernel_rfl) (by kernel_rfl) (by kernel_rfl) (fun _ _ _ h => h) ⟨by rfl, ?_⟩ hS ?_
                    rotate_left
                    · intro wz hSw; go_simp; try rfl
                    simp only [Act.put, List.setIfInBounds_toArray, List.set_cons_zero, List.set_cons_succ]
                    refine wpAnyH_ready (rs := [10]) (by kernel_rfl) (by simp) ?_
                    refine AllReadyH.cons rfl (fun K hK => ?_) AllReadyH.nil
                    go_simp
                    go_wp2_with fail
                    refine hK.out _ _ s5 (fun hS => ?_)
                    clear hK K hS
                    (try simp only [Act.put, List.setIfInBounds_toArray, List.set_cons_zero, List.set_cons_succ])
                    refine wpAnyH_done (by kernel_rfl) ?_ _
                    go_wp2_with fail
                    go_meet
                    exact ⟨an, cn, HF4.out⟩
                  · go_simp
                    go_wp2_with fail
                    refine hK.out _ _ sa (fun hS => ?_)
                    clear hK K
                    (try simp only [Act.put, List.setIfInBounds_toArray, List.set_cons_zero, List.set_cons_succ])
                    refine wpAnyH_ready (rs := [1]) (by kernel_rfl) (by simp) ?_
                    refine AllReadyH.cons rfl (fun K hK => ?_) AllReadyH.nil
                    go_simp
                    go_wp2_with fail
                    refine hK.out _ _ hS (fun hS => ?_)
                    clear hK K
                    (try simp only [Act.put, List.setIfInBounds_toArray, List.set_cons_zero, List.set_cons_succ])
                    refine wpAnyH_ready (rs := [8]) (by kernel_rfl) (by simp) ?_
                    refine AllReadyH.cons rfl (fun K hK => ?_) AllReadyH.nil
                    refine wp_run 146 (.tmp 139) (.tmp 145) rfl rfl rfl rfl rfl HRR.out ?_
                    refine hK.out _ _ s4 (fun hS => ?_)
                    clear hK K
                    (try simp only [Act.put, List.setIfInBounds_toArray, List.set_cons_zero, List.set_cons_succ])
                    refine take_at 9 (some 147) (v := ?_) rfl rfl (by kernel_rfl) (by kernel_rfl) (by kernel_rfl) (fun _ _ _ h => h) ⟨by rfl, ?_⟩ hS ?_
                    rotate_left
                    · intro wz hSw; go_simp; try rfl
                    simp only [Act.put, List.setIfInBounds_toArray, List.set_cons_zero, List.set_cons_succ]
                    refine wpAnyH_ready (rs := [10]) (by kernel_rfl) (by simp) ?_
                    refine AllReadyH.cons rfl (fun K hK => ?_) AllReadyH.nil
                    go_simp
                    go_wp2_with fail
                    refine hK.out _ _ s5 (fun hS => ?_)
                    clear hK K hS
                    (try simp only [Act.put, List.setIfInBounds_toArray, List.set_cons_zero, List.set_cons_succ])
                    refine wpAnyH_done (by kernel_rfl) ?_ _
                    go_wp2_with fail
                    go_meet
                    exact ⟨an, cn, HF4.out⟩
                case rest =>
                  obtain ⟨an, cn, hF⟩ := hcut
                  have F5 := hide hF
                  have z1 := SC.out _ hF.sc
                  have g2 := (hF.fc.get 2 _ rfl).1
                  clear hF z0 FJ
                  go_upto_region 32 with fail
                  by_cases hl0 : l = 0
                  · have LS2 := hide (show leastL QP (j + 1) = y by rw [LST.out, if_pos ⟨h0, .inl hl0⟩])
                    have d1 : (l == 0) = true := by simpa using hl0
                    clear hl0
                    go_quiet (fail)
                    have F6 := hide (F5.out.below (below_drewN (Below.refl wc.heap.size wc) nq))
                    generalize wc.drewN nq = w12 at *
                    have z2 := SC.out _ F6.out.sc
                    obtain ⟨g2', g2f⟩ := F6.out.fc.get 2 _ rfl
                    have F7 := hide (F6.out.least y)
                    go_wp2_with fail
                    go_roundw
                    case rel => first | exact ⟨j + 1, _, by go_num, by omega, by rw [TM.out, LS2.out]; exact F7.out⟩ | ((repeat apply Exists.intro); exact ⟨⟨j + 1, _, by go_num, by omega, by rw [TM.out, LS2.out]; exact F7.out⟩, rfl⟩)
                    case measure => simp [intOf]; omega
                  · have d1 : (l == 0) = false := by simpa using hl0
                    by_cases hyl : y < l
                    · have LS2 := hide (show leastL QP (j + 1) = y by rw [LST.out, if_pos ⟨h0, .inr hyl⟩])
                      have d2 : decide (y < l) = true := decide_eq_true hyl
                      clear hl0
                      go_quiet (fail)
                      have F6 := hide (F5.out.below (below_drewN (Below.refl wc.heap.size wc) nq))
                      generalize wc.drewN nq = w12 at *
                      have z2 := SC.out _ F6.out.sc
                      obtain ⟨g2', g2f⟩ := F6.out.fc.get 2 _ rfl
                      have F7 := hide (F6.out.least y)
                      go_wp2_with fail
                      go_roundw
                      case rel => first | exact ⟨j + 1, _, by go_num, by omega, by rw [TM.out, LS2.out]; exact F7.out⟩ | ((repeat apply Exists.intro); exact ⟨⟨j + 1, _, by go_num, by omega, by rw [TM.out, LS2.out]; exact F7.out⟩, rfl⟩)
                      case measure => simp [intOf]; omega
                    · have LS2 := hide (show leastL QP (j + 1) = l by rw [LST.out, if_neg (fun q => by rcases q.2 with e | e; exact hl0 e; exact hyl e)])
                      have d2 : decide (y < l) = false := decide_eq_false hyl
                      clear hl0
                      go_quiet (fail)
                      have F6 := hide (F5.out.below (below_drewN (Below.refl wc.heap.size wc) nq))
                      generalize wc.drewN nq = w12 at *
                      go_wp2_with fail
                      go_roundw
                      case rel => first | exact ⟨j + 1, _, by go_num, by omega, by rw [TM.out, LS2.out]; exact F6.out⟩ | ((repeat apply Exists.intro); exact ⟨⟨j + 1, _, by go_num, by omega, by rw [TM.out, LS2.out]; exact F6.out⟩, rfl⟩)
                      case measure => simp [intOf]; omega
            · obtain rfl : j = 64 := by omega
              obtain ⟨g0, -⟩ := hF.fc.get 0 _ rfl
              obtain ⟨g1, -⟩ := hF.fc.get 1 _ rfl
              obtain ⟨g2, -⟩ := hF.fc.get 2 _ rfl
              obtain ⟨g3, -⟩ := hF.fc.get 3 _ rfl
              obtain ⟨z0, f0⟩ := hF.rc.get 0 _ rfl
              obtain ⟨z1, f1⟩ := hF.rc.get 1 _ rfl
              obtain ⟨z2, f2⟩ := hF.rc.get 2 _ rfl
              obtain ⟨z3, f3⟩ := hF.rc.get 3 _ rfl
              have lo := hF.lo.2
              obtain ⟨l, hl⟩ : ∃ z, z = leastL QP 64 := ⟨_, rfl⟩
              obtain ⟨DD, hDD⟩ : ∃ z, z = toldL QP 64 := ⟨_, rfl⟩
              rw [← hl] at g2 FJ HQF
              rw [← hDD] at g1 FJ HQF
              have kk := (((Keep.refl (fun z => z = rb) w11).setCell (g := rb) (j := 0) (fun _ => rfl) (.slice la VL lcp)).setCell (g := rb) (j := 1) (fun _ => rfl) (.slice da DD.length dcp)).setCell (g := rb) (j := 2) (fun _ => rfl) (.int .i64 l)
              have k4 := kk.setCell (g := rb) (j := 3) (fun _ => rfl) (.int .i64 nx)
              have K4 := hide k4
              clear hF hl hDD kk k4
              go_wp2_with fail
              refine bodyPost_ret (v := .tuple #[.agg #[.slice la VL lcp, .slice da DD.length dcp, .int .i64 l, .int .i64 nx], .int .i64 0]) (by simp [results, Tryz.results8, go_sem, z0, z1, z2, z3]) rfl ?_
              rw [HRU.out]
              unfold RunPost
              rw [RE.out, RF.out, HQF.out]
              exact ⟨.slice la VL lcp, .slice da DD.length dcp, rfl, GRow.keep FJ.out.lr K4.out (fun g hg => (FJ.out.nl g hg).2.2), GRow.keep FJ.out.dr K4.out (fun g hg => (FJ.out.nd g hg).2.2.1), FJ.out.be.trans (K4.out.below FJ.out.be.size (fun z hz q => by omega))⟩
end Go.Proofs.YtblngphjoafidaaGreat
