import Derived.Test.YtakjpljpdlhicaaDoorPg20
namespace Go.Proofs.YtakjpljpdlhicaaDoor
open Go.RowKit Go.QK Go.Pg
set_option maxRecDepth 100000
theorem ctrE_made {y1 y2 lo hi val : Int} (h1 : 1 ≤ y1 ∧ y1 ≤ 1048576) (h2 : 1 ≤ y2 ∧ y2 ≤ 1048576) (h3 : lo ≤ hi) : ctrE ⟨y1, y2, lo, hi, val⟩ = 0 := by
  unfold ctrE
  rw [if_pos (by simp [okN]; omega), if_neg (by simp; omega)]
theorem grpE_made {y1 sm : Int} (h1 : 1 ≤ y1 ∧ y1 ≤ 1048576) : grpE ⟨y1, sm⟩ = 0 := by
  unfold grpE
  rw [if_pos (by simp [okN]; omega)]
set_option maxHeartbeats 16000000 in
theorem made_any (p : PageM) (t : At) (w : World) (h : PageIn w p t) :
    Calls Tryd.prog 34 #[pageV p t] w fun e w' => ∃ q v, e = .returned v ∧ checkE q = 0 ∧ q.Fit ∧ PageOut w' w.heap.size v q ∧ Below w.heap.size w w' := by
  obtain ⟨hcs, hgs, _, _, hfc, hfg⟩ := h
  obtain ⟨num, lsn, cs, gs⟩ := p
  obtain ⟨ta, tc, tb, td⟩ := t
  simp only [pageV] at *
  have PN := fun w => pick_any num 0 63 w (by decide) (by decide) (by decide)
  have PL := fun w => pick_any lsn 1 2147483647 w (by decide) (by decide) (by decide)
  have HCS := hide hcs
  have HGS := hide hgs
  have HFC := hide hfc
  have HFG := hide hfg
  clear hcs hgs hfc hfg
  go_enter Tryd.func34, Tryd.ntmps34
  go_wp2_with fail
  refine (PN _).mono ?_
  rintro e w1 ⟨pn, rfl, hpn, rfl⟩
  go_upto_region 2 with fail
  refine named (P := Code.wp _ _ _ _) ?_
  intro w2 hw2
  have rp0 : Rp w w2 57 5 0 [.int .i64 num, .int .i64 lsn, .slice ta cs.length tc, .slice tb gs.length td] [.int .i64 pn, .int .i64 0, .slice none 0 0, .slice none 0 0] (.slice none 0 0) [] := by
    rw [hw2]
    have q1 := Cells.new w #[.int .i64 num, .int .i64 lsn, .slice ta cs.length tc, .slice tb gs.length td] 38
    have q2 := Cells.new (w.alloc (.cells #[.int .i64 num, .int .i64 lsn, .slice ta cs.length tc, .slice tb gs.length td] 38)) #[.int .i64 0, .int .i64 0, .slice none 0 0, .slice none 0 0] 38
    have q3 := Cells.new ((w.alloc (.cells #[.int .i64 num, .int .i64 lsn, .slice ta cs.length tc, .slice tb gs.length td] 38)).alloc (.cells #[.int .i64 0, .int .i64 0, .slice none 0 0, .slice none 0 0] 38)) #[.int .i64 pn, .int .i64 0, .slice none 0 0, .slice none 0 0] 38
    simp only [World.size_alloc] at q2 q3
    exact ⟨(q1.below (alloc_below _ _)).below (alloc_below _ _), q2.below (alloc_below _ _), q3, World.ownsRow_nil _ _ _ _, bnext (bnext (alloc_below _ _) (alloc_below _ _) (Nat.le_refl _)) (alloc_below _ _) (Nat.le_refl _)⟩
  have R0 := hide rp0
  clear hw2 rp0 PN
  go_wp2_with fail
  go_loopw [4] (fun i ws => ∃ (k : Nat) (v : Value) (qs : List CtrM), i = .int .i64 (k : Int) ∧ k ≤ cs.length ∧ k ≤ 31 ∧ (k = 0 → v = .slice none 0 0) ∧ qs.length = k ∧ (∀ c ∈ qs, ctrE c = 0 ∧ c.Fit) ∧
    Rp w ws 57 5 k [.int .i64 num, .int .i64 lsn, .slice ta cs.length tc, .slice tb gs.length td] [.int .i64 pn, .int .i64 0, v, .slice none 0 0] v (ctrsC qs)) (fun i _ => cs.length - (intOf i).toNat)
  case atStart => exact ⟨0, _, [], rfl, Nat.zero_le _, Nat.zero_le _, fun _ => rfl, rfl, by simp, R0.out⟩
  case round =>
    obtain ⟨k, v, qs, rfl, hk, hk31, hv0, hql, hqs, hrp⟩ := hrel
    have HQS := hide hqs
    have HQL := hide hql
    obtain ⟨g2, x2⟩ := hrp.head.get 2 _ rfl
    by_cases hlt : k < cs.length ∧ k < 31
    · have d1 : decide ((k : Int) < (cs.length : Int)) = true := by simp; exact hlt.1
      have d2 : decide ((k : Int) < 31) = true := by simp; omega
      have d3 : (k : Int) < (cs.length : Int) := by omega
      have d4 : (k : Int) < 31 := by omega
      obtain ⟨b, off, rfl, hbl, hcell⟩ := Lies.rowAt ctrC 5 ctrC_length (Lies.below HCS.out hrp.bel) k hlt.1 (by decide)
      have hcf := HFC.out cs[k] (List.getElem_mem hlt.1)
      generalize cs[k] = ck at *
      obtain ⟨id, grp, lo, hi, val⟩ := ck
      obtain ⟨_, _, flo, fhi, fv⟩ := hcf
      have i0 := hcell 0 _ rfl
      have i1 := hcell 1 _ rfl
      have i2 := hcell 2 _ rfl
      have i3 := hcell 3 _ rfl
      have i4 := hcell 4 _ rfl
      rw [Nat.add_zero] at i0
      have PI := fun w => pick_any id 1 1048576 w (by decide) (by decide) (by decide)
      have PG := fun w => pick_any grp 1 1048576 w (by decide) (by decide) (by decide)
      have HR := hide hrp
      clear hrp hcell hqs hql hv0
      by_cases hsw : hi < lo
      · have e1 : decide (hi < lo) = true := by simp [hsw]
        go_wp2_with fail
        refine (PI _).mono ?_
        rintro e w3 ⟨y1, rfl, hy1, rfl⟩
        go_wp2_with fail
        refine (PG _).mono ?_
        rintro e w3 ⟨y2, rfl, hy2, rfl⟩
        have fy1 : fit y1 := ⟨by omega, by omega⟩
        have fy2 : fit y2 := ⟨by omega, by omega⟩
        go_upto_region 10 with fail
        refine named (P := Code.wp _ _ _ _) ?_
        intro w5 hw5
        have b5 : Below wr.heap.size wr w5 := by rw [hw5]; exact alloc_below _ _
        have c5 : Cells w5 wr.heap.size [.int .i64 y1, .int .i64 y2, .int .i64 hi, .int .i64 lo, .int .i64 val] := by rw [hw5]; exact Cells.new wr _ _
        have R5 := hide (HR.out.below b5)
        obtain ⟨G5, hG5⟩ : ∃ G5, G5 = wr.heap.size := ⟨_, rfl⟩
        rw [← hG5] at c5 ⊢
        obtain ⟨j0, -⟩ := c5.get 0 _ rfl
        obtain ⟨j1, -⟩ := c5.get 1 _ rfl
        obtain ⟨j2, -⟩ := c5.get 2 _ rfl
        obtain ⟨j3, -⟩ := c5.get 3 _ rfl
        obtain ⟨j4, -⟩ := c5.get 4 _ rfl
        obtain ⟨p2, -⟩ := R5.out.page.get 2 _ rfl
        clear hw5 b5 c5 hG5 i0 i1 i2 i3 i4 g2 x2 PI PG HR d1 d2 d3 d4 e1
        have hlie : Lies (w5.alloc (.cells #[.int .i64 y1, .int .i64 y2, .int .i64 hi, .int .i64 lo, .int .i64 val] 57)) (some ⟨w5.heap.size, 0, none⟩) (ctrC ⟨y1, y2, hi, lo, val⟩) := .inr ⟨w5.heap.size, 0, rfl, by simp, fun i hx => by rw [Nat.zero_add]; exact ((Cells.new w5 #[.int .i64 y1, .int .i64 y2, .int .i64 hi, .int .i64 lo, .int .i64 val] 57).get i _ (List.getElem?_eq_getElem hx)).1⟩
        have R6 := hide (R5.out.below (alloc_below w5 (.cells #[.int .i64 y1, .int .i64 y2, .int .i64 hi, .int .i64 lo, .int .i64 val] 57)))
        have HLI := hide hlie
        clear hlie
        go_upto_region 4 with (at_builtin; refine wpList_appR Tryd.underlying24 info57 rfl (by decide) (by decide) rfl (.tmp _) (.tmp _) rfl (w.heap.size + 3) v k (ctrsC qs) rfl R6.out.row (some ⟨w5.heap.size, 0, none⟩) 1 1 (ctrC ⟨y1, y2, hi, lo, val⟩) rfl rfl HLI.out (by intro u hu; simp [ctrC] at hu; rcases hu with rfl | rfl | rfl | rfl | rfl <;> rfl) (by nofun) (by omega) (by have := R6.out.page.1; omega) ?_; intro v' w7 q1 q2 q3; obtain ⟨av, cv, rfl, -, -, -, -, -⟩ := GRow.lies q1; have R7 := hide (R6.out.grown q2 q1); obtain ⟨o2, ox2⟩ := R7.out.page.get 2 _ rfl; clear p2)
        refine named (P := Code.wp _ _ _ _) ?_
        intro w8 hw8
        have R8 : Rp w w8 57 5 (k + 1) [.int .i64 num, .int .i64 lsn, .slice (some ⟨b, off, none⟩) cs.length tc, .slice tb gs.length td] [.int .i64 pn, .int .i64 0, .slice av (k + 1) cv, .slice none 0 0] (.slice av (k + 1) cv) (ctrsC qs ++ ctrC ⟨y1, y2, hi, lo, val⟩) := by rw [hw8]; exact R7.out.stored (j := 2) (u := .slice av (k + 1) cv) (by simp)
        have HR8 := hide R8
        clear hw8 R8 R7 R6 R5 HLI q1 q2 q3 o2 ox2 j0 j1 j2 j3 j4
        go_wp2_with fail
        go_roundw
        case rel =>
          refine ⟨k + 1, .slice av (k + 1) cv, qs ++ [⟨y1, y2, hi, lo, val⟩], by go_num, by omega, by omega, by simp, by rw [List.length_append, HQL.out]; rfl, ?_, ?_⟩
          · intro c hc
            rcases List.mem_append.1 hc with q | q
            · exact HQS.out c q
            · simp at q; subst q; exact ⟨ctrE_made hy1 hy2 (by omega), fy1, fy2, fhi, flo, fv⟩
          · have q2 := HR8.out
            have q3 : ctrsC (qs ++ [⟨y1, y2, hi, lo, val⟩]) = ctrsC qs ++ ctrC ⟨y1, y2, hi, lo, val⟩ := rowsC_snoc _ _ _
            rw [q3]
            exact q2
        case measure => simp [intOf]; omega
      · have e1 : decide (hi < lo) = false := by simp [hsw]
        go_wp2_with fail
        refine (PI _).mono ?_
        rintro e w3 ⟨y1, rfl, hy1, rfl⟩
        go_wp2_with fail
        refine (PG _).mono ?_
        rintro e w3 ⟨y2, rfl, hy2, rfl⟩
        have fy1 : fit y1 := ⟨by omega, by omega⟩
        have fy2 : fit y2 := ⟨by omega, by omega⟩
        go_upto_region 10 with fail
        refine named (P := Code.wp _ _ _ _) ?_
        intro w5 hw5
        have b5 : Below wr.heap.size wr w5 := by rw [hw5]; exact alloc_below _ _
        have c5 : Cells w5 wr.heap.size [.int .i64 y1, .int .i64 y2, .int .i64 lo, .int .i64 hi, .int .i64 val] := by rw [hw5]; exact Cells.new wr _ _
        have R5 := hide (HR.out.below b5)
        obtain ⟨G5, hG5⟩ : ∃ G5, G5 = wr.heap.size := ⟨_, rfl⟩
        rw [← hG5] at c5 ⊢
        obtain ⟨j0, -⟩ := c5.get 0 _ rfl
        obtain ⟨j1, -⟩ := c5.get 1 _ rfl
        obtain ⟨j2, -⟩ := c5.get 2 _ rfl
        obtain ⟨j3, -⟩ := c5.get 3 _ rfl
        obtain ⟨j4, -⟩ := c5.get 4 _ rfl
        obtain ⟨p2, -⟩ := R5.out.page.get 2 _ rfl
        clear hw5 b5 c5 hG5 i0 i1 i2 i3 i4 g2 x2 PI PG HR d1 d2 d3 d4 e1
        have hlie : Lies (w5.alloc (.cells #[.int .i64 y1, .int .i64 y2, .int .i64 lo, .int .i64 hi, .int .i64 val] 57)) (some ⟨w5.heap.size, 0, none⟩) (ctrC ⟨y1, y2, lo, hi, val⟩) := .inr ⟨w5.heap.size, 0, rfl, by simp, fun i hx => by rw [Nat.zero_add]; exact ((Cells.new w5 #[.int .i64 y1, .int .i64 y2, .int .i64 lo, .int .i64 hi, .int .i64 val] 57).get i _ (List.getElem?_eq_getElem hx)).1⟩
        have R6 := hide (R5.out.below (alloc_below w5 (.cells #[.int .i64 y1, .int .i64 y2, .int .i64 lo, .int .i64 hi, .int .i64 val] 57)))
        have HLI := hide hlie
        clear hlie
        go_upto_region 4 with (at_builtin; refine wpList_appR Tryd.underlying24 info57 rfl (by decide) (by decide) rfl (.tmp _) (.tmp _) rfl (w.heap.size + 3) v k (ctrsC qs) rfl R6.out.row (some ⟨w5.heap.size, 0, none⟩) 1 1 (ctrC ⟨y1, y2, lo, hi, val⟩) rfl rfl HLI.out (by intro u hu; simp [ctrC] at hu; rcases hu with rfl | rfl | rfl | rfl | rfl <;> rfl) (by nofun) (by omega) (by have := R6.out.page.1; omega) ?_; intro v' w7 q1 q2 q3; obtain ⟨av, cv, rfl, -, -, -, -, -⟩ := GRow.lies q1; have R7 := hide (R6.out.grown q2 q1); obtain ⟨o2, ox2⟩ := R7.out.page.get 2 _ rfl; clear p2)
        refine named (P := Code.wp _ _ _ _) ?_
        intro w8 hw8
        have R8 : Rp w w8 57 5 (k + 1) [.int .i64 num, .int .i64 lsn, .slice (some ⟨b, off, none⟩) cs.length tc, .slice tb gs.length td] [.int .i64 pn, .int .i64 0, .slice av (k + 1) cv, .slice none 0 0] (.slice av (k + 1) cv) (ctrsC qs ++ ctrC ⟨y1, y2, lo, hi, val⟩) := by rw [hw8]; exact R7.out.stored (j := 2) (u := .slice av (k + 1) cv) (by simp)
        have HR8 := hide R8
        clear hw8 R8 R7 R6 R5 HLI q1 q2 q3 o2 ox2 j0 j1 j2 j3 j4
        go_wp2_with fail
        go_roundw
        case rel =>
          refine ⟨k + 1, .slice av (k + 1) cv, qs ++ [⟨y1, y2, lo, hi, val⟩], by go_num, by omega, by omega, by simp, by rw [List.length_append, HQL.out]; rfl, ?_, ?_⟩
          · intro c hc
            rcases List.mem_append.1 hc with q | q
            · exact HQS.out c q
            · simp at q; subst q; exact ⟨ctrE_made hy1 hy2 (by omega), fy1, fy2, flo, fhi, fv⟩
          · have q2 := HR8.out
            have q3 : ctrsC (qs ++ [⟨y1, y2, lo, hi, val⟩]) = ctrsC qs ++ ctrC ⟨y1, y2, lo, hi, val⟩ := rowsC_snoc _ _ _
            rw [q3]
            exact q2
        case measure => simp [intOf]; omega
    · have HR := hide hrp
      clear hqs hql
      by_cases hc0 : cs.length = 0
      · obtain rfl : k = 0 := by omega
        obtain rfl := hv0 rfl
        have R2 : Hid (Rp w wr 59 2 0 [.int .i64 num, .int .i64 lsn, .slice ta cs.length tc, .slice tb gs.length td] [.int .i64 pn, .int .i64 0, .slice none 0 0, .slice none 0 0] (.slice none 0 0) (grpsC [])) := hide ⟨hrp.head, hrp.zero, hrp.page, World.ownsRow_nil _ _ _ _, hrp.bel⟩
        have f1 : decide ((0 : Int) < (cs.length : Int)) = false := decide_eq_false (by omega)
        have f2 : ¬ (0 : Int) < (cs.length : Int) := by omega
        clear hrp hv0 HR HQS HQL
        go_wp2_with fail
        go_loopw [6] (fun i ws => ∃ (k : Nat) (v : Value) (qs : List GrpM), i = .int .i64 (k : Int) ∧ k ≤ gs.length ∧ k ≤ 84 ∧ qs.length = k ∧ (∀ c ∈ qs, grpE c = 0 ∧ c.Fit) ∧ Rp w ws 59 2 k [.int .i64 num, .int .i64 lsn, .slice ta cs.length tc, .slice tb gs.length td] [.int .i64 pn, .int .i64 0, .slice none 0 0, v] v (grpsC qs)) (fun i _ => gs.length - (intOf i).toNat)
        case atStart => exact ⟨0, _, [], rfl, Nat.zero_le _, Nat.zero_le _, rfl, by simp, R2.out⟩
        case round =>
          clear g2 x2 f1 f2 R2
          obtain ⟨k, v, qs, rfl, hk, hk84, hql, hqs, hrp⟩ := hrel
          have HQS := hide hqs
          have HQL := hide hql
          obtain ⟨g3, x3⟩ := hrp.head.get 3 _ rfl
          obtain ⟨p2, px2⟩ := hrp.page.get 2 _ rfl
          have HR := hide hrp
          by_cases hlt : k < gs.length ∧ k < 84
          · have d1 : decide ((k : Int) < (gs.length : Int)) = true := by simp; exact hlt.1
            have d2 : decide ((k : Int) < 84) = true := by simp; omega
            have d3 : (k : Int) < (gs.length : Int) := by omega
            have d4 : (k : Int) < 84 := by omega
            obtain ⟨b, off, rfl, hbl, hcell⟩ := Lies.rowAt grpC 2 grpC_length (Lies.below HGS.out hrp.bel) k hlt.1 (by decide)
            have hcf := HFG.out gs[k] (List.getElem_mem hlt.1)
            generalize gs[k] = ck at *
            obtain ⟨id, sm⟩ := ck
            obtain ⟨_, fv⟩ := hcf
            have i0 := hcell 0 _ rfl
            have i1 := hcell 1 _ rfl
            rw [Nat.add_zero] at i0
            have PI := fun w => pick_any id 1 1048576 w (by decide) (by decide) (by decide)
            clear hrp hcell hqs hql
            go_wp2_with fail
            refine (PI _).mono ?_
            rintro e w3 ⟨y1, rfl, hy1, rfl⟩
            have fy1 : fit y1 := ⟨by omega, by omega⟩
            go_upto_region 16 with fail
            refine named (P := Code.wp _ _ _ _) ?_
            intro w5 hw5
            have b5 : Below wr.heap.size wr w5 := by rw [hw5]; exact alloc_below _ _
            have c5 : Cells w5 wr.heap.size [.int .i64 y1, .int .i64 sm] := by rw [hw5]; exact Cells.new wr _ _
            have R5 := hide (HR.out.below b5)
            obtain ⟨G5, hG5⟩ : ∃ G5, G5 = wr.heap.size := ⟨_, rfl⟩
            rw [← hG5] at c5 ⊢
            obtain ⟨j0, -⟩ := c5.get 0 _ rfl
            obtain ⟨j1, -⟩ := c5.get 1 _ rfl
            obtain ⟨p3, -⟩ := R5.out.page.get 3 _ rfl
            clear hw5 b5 c5 hG5 i0 i1 g3 x3 p2 px2 PI HR d1 d2 d3 d4
            have hlie : Lies (w5.alloc (.cells #[.int .i64 y1, .int .i64 sm] 59)) (some ⟨w5.heap.size, 0, none⟩) (grpC ⟨y1, sm⟩) := .inr ⟨w5.heap.size, 0, rfl, by simp, fun i hx => by rw [Nat.zero_add]; exact ((Cells.new w5 #[.int .i64 y1, .int .i64 sm] 59).get i _ (List.getElem?_eq_getElem hx)).1⟩
            have R6 := hide (R5.out.below (alloc_below w5 (.cells #[.int .i64 y1, .int .i64 sm] 59)))
            have HLI := hide hlie
            clear hlie
            go_upto_region 13 with (at_builtin; refine wpList_appR Tryd.underlying25 info59 rfl (by decide) (by decide) rfl (.tmp _) (.tmp _) rfl (w.heap.size + 3) v k (grpsC qs) rfl R6.out.row (some ⟨w5.heap.size, 0, none⟩) 1 1 (grpC ⟨y1, sm⟩) rfl rfl HLI.out (by intro u hu; simp [grpC] at hu; rcases hu with rfl | rfl <;> rfl) (by nofun) (by omega) (by have := R6.out.page.1; omega) ?_; intro v' w7 q1 q2 q3; obtain ⟨av, cv, rfl, -, -, -, -, -⟩ := GRow.lies q1; have R7 := hide (R6.out.grown q2 q1); obtain ⟨o2, ox2⟩ := R7.out.page.get 3 _ rfl; clear p3)
            refine named (P := Code.wp _ _ _ _) ?_
            intro w8 hw8
            have R8 : Rp w w8 59 2 (k + 1) [.int .i64 num, .int .i64 lsn, .slice ta cs.length tc, .slice (some ⟨b, off, none⟩) gs.length td] [.int .i64 pn, .int .i64 0, .slice none 0 0, .slice av (k + 1) cv] (.slice av (k + 1) cv) (grpsC qs ++ grpC ⟨y1, sm⟩) := by rw [hw8]; exact R7.out.stored (j := 3) (u := .slice av (k + 1) cv) (by simp)
            have HR8 := hide R8
            clear hw8 R8 R7 R6 R5 HLI q1 q2 q3 o2 ox2 j0 j1
            go_wp2_with fail
            go_roundw
            case rel =>
              refine ⟨k + 1, .slice av (k + 1) cv, qs ++ [⟨y1, sm⟩], by go_num, by omega, by omega, by rw [List.length_append, HQL.out]; rfl, ?_, ?_⟩
              · intro c hc
                rcases List.mem_append.1 hc with q | q
                · exact HQS.out c q
                · simp at q; subst q; exact ⟨grpE_made hy1, fy1, fv⟩
              · have q2 := HR8.out
                have q3 : grpsC (qs ++ [⟨y1, sm⟩]) = grpsC qs ++ grpC ⟨y1, sm⟩ := rowsC_snoc _ _ _
                rw [q3]
                exact q2
            case measure => simp [intOf]; omega
          · obtain ⟨av, cv, rfl, -, -, -, -, -⟩ := GRow.lies hrp.row
            obtain ⟨h1, hx1⟩ := HR.out.head.get 1 _ rfl
            obtain ⟨p3, px3⟩ := HR.out.page.get 3 _ rfl
            have kw : IntKind.i64.wrap (k : Int) = (k : Int) := by rw [IntKind.wrap_i64]; omega
            clear hrp hqs hql
            by_cases hkl : k < gs.length
            · have d1 : decide ((k : Int) < (gs.length : Int)) = true := by simp; omega
              have d2 : decide ((k : Int) < 84) = false := decide_eq_false (by omega)
              have d3 : (k : Int) < (gs.length : Int) := by omega
              have d4 : ¬ (k : Int) < 84 := by omega
              have kp : decide ((0 : Int) < (k : Int)) = true := by simp; omega
              have kp2 : (0 : Int) < (k : Int) := by omega
              go_wp2_with fail
              refine (PL _).mono ?_
              rintro e w9 ⟨y, rfl, hy, hw9⟩
              obtain rfl : wr = w9 := hw9.symm
              clear hw9
              obtain ⟨o1, ox1⟩ := HR.out.page.get 1 _ rfl
              go_upto_region 19 with fail
              refine named (P := Code.wp _ _ _ _) ?_
              intro w10 hw10
              have R10 : Rp w w10 59 2 k [.int .i64 num, .int .i64 lsn, .slice ta cs.length tc, .slice tb gs.length td] [.int .i64 pn, .int .i64 y, .slice none 0 0, .slice av k cv] (.slice av k cv) (grpsC qs) := by rw [hw10]; exact HR.out.stored (j := 1) (u := .int .i64 y) (by simp)
              have HR10 := hide R10
              have fy : fit y := ⟨by omega, by omega⟩
              clear R10 hw10 o1 ox1
              clear g3 x3 h1 hx1 p2 px2 p3 px3 kp kp2 kw
              have K9 := (((((Keep.refl (fun i => i = w.heap.size + 1) w10).setCell (g := w.heap.size + 1) (j := 0) (fun _ => rfl) (.int .i64 pn)).setCell (g := w.heap.size + 1) (j := 1) (fun _ => rfl) (.int .i64 y)).setCell (g := w.heap.size + 1) (j := 2) (fun _ => rfl) (.slice none 0 0)).setCell (g := w.heap.size + 1) (j := 3) (fun _ => rfl) (.slice av k cv))
              have C9 := ((((HR10.out.zero.stored (j := 0) (by simp) (.int .i64 pn)).stored (j := 1) (by simp) (.int .i64 y)).stored (j := 2) (by simp) (.slice none 0 0)).stored (j := 3) (by simp) (.slice av k cv))
              obtain ⟨k0, _⟩ := C9.get 0 _ rfl
              obtain ⟨k1, _⟩ := C9.get 1 _ rfl
              obtain ⟨k2, _⟩ := C9.get 2 _ rfl
              obtain ⟨k3, _⟩ := C9.get 3 _ rfl
              obtain ⟨m0, mx0⟩ := HR10.out.page.get 0 _ rfl
              obtain ⟨m1, mx1⟩ := HR10.out.page.get 1 _ rfl
              obtain ⟨m2, mx2⟩ := HR10.out.page.get 2 _ rfl
              obtain ⟨m3, mx3⟩ := HR10.out.page.get 3 _ rfl
              obtain ⟨z0, zx0⟩ := HR10.out.zero.get 0 _ rfl
              obtain ⟨z1, zx1⟩ := HR10.out.zero.get 1 _ rfl
              obtain ⟨z2, zx2⟩ := HR10.out.zero.get 2 _ rfl
              obtain ⟨z3, zx3⟩ := HR10.out.zero.get 3 _ rfl
              have hlt9 := World.ownsRow.lt HR10.out.row
              have GR9 := hide (GRow.mono (B' := w.heap.size) (HR10.out.row.keep K9 (fun g hg q => by have := (hlt9 g hg).1; omega)) (by omega))
              have BF9 := hide (HR10.out.bel.trans (K9.below HR10.out.bel.size (fun i hi q => by omega)))
              clear K9 C9 hlt9
              go_wp2_with fail
              refine bodyPost_ret (v := .agg #[.int .i64 pn, .int .i64 y, .slice none 0 0, .slice av k cv]) (by simp only [results, Tryd.results34]; simp [go_sem, k0, k1, k2, k3]) rfl ?_
              exact ⟨⟨pn, y, [], qs⟩, _, rfl, checkE_of hpn (.inl rfl) (by simp) (by simp [HQL.out]; omega) (by simp; omega) (by simp [isEmpty, HQL.out]; omega) (slots_none _ _ (by simp) (fun c hc => (HQS.out c hc).1)), ⟨⟨by simp; omega, by simp; omega⟩, fy, by simp, fun c hc => (HQS.out c hc).2⟩, ⟨_, _, rfl, World.ownsRow_nil _ _ _ _, by simp only [HQL.out]; exact GR9.out⟩, BF9.out⟩
            · have d1 : decide ((k : Int) < (gs.length : Int)) = false := decide_eq_false (by omega)
              have d3 : ¬ (k : Int) < (gs.length : Int) := by omega
              by_cases hk0 : k = 0
              · subst hk0
                go_upto_region 19 with fail
                have K9 := (((((Keep.refl (fun i => i = w.heap.size + 1) wr).setCell (g := w.heap.size + 1) (j := 0) (fun _ => rfl) (.int .i64 pn)).setCell (g := w.heap.size + 1) (j := 1) (fun _ => rfl) (.int .i64 0)).setCell (g := w.heap.size + 1) (j := 2) (fun _ => rfl) (.slice none 0 0)).setCell (g := w.heap.size + 1) (j := 3) (fun _ => rfl) (.slice av 0 cv))
                have C9 := ((((HR.out.zero.stored (j := 0) (by simp) (.int .i64 pn)).stored (j := 1) (by simp) (.int .i64 0)).stored (j := 2) (by simp) (.slice none 0 0)).stored (j := 3) (by simp) (.slice av 0 cv))
                obtain ⟨k0, _⟩ := C9.get 0 _ rfl
                obtain ⟨k1, _⟩ := C9.get 1 _ rfl
                obtain ⟨k2, _⟩ := C9.get 2 _ rfl
                obtain ⟨k3, _⟩ := C9.get 3 _ rfl
                obtain ⟨m0, mx0⟩ := HR.out.page.get 0 _ rfl
                obtain ⟨m1, mx1⟩ := HR.out.page.get 1 _ rfl
                obtain ⟨m2, mx2⟩ := HR.out.page.get 2 _ rfl
                obtain ⟨m3, mx3⟩ := HR.out.page.get 3 _ rfl
                obtain ⟨z0, zx0⟩ := HR.out.zero.get 0 _ rfl
                obtain ⟨z1, zx1⟩ := HR.out.zero.get 1 _ rfl
                obtain ⟨z2, zx2⟩ := HR.out.zero.get 2 _ rfl
                obtain ⟨z3, zx3⟩ := HR.out.zero.get 3 _ rfl
                have hlt9 := World.ownsRow.lt HR.out.row
                have GR9 := hide (GRow.mono (B' := w.heap.size) (HR.out.row.keep K9 (fun g hg q => by have := (hlt9 g hg).1; omega)) (by omega))
                have BF9 := hide (HR.out.bel.trans (K9.below HR.out.bel.size (fun i hi q => by omega)))
                clear K9 C9 hlt9
                go_wp2_with fail
                refine bodyPost_ret (v := .agg #[.int .i64 pn, .int .i64 0, .slice none 0 0, .slice av 0 cv]) (by simp only [results, Tryd.results34]; simp [go_sem, k0, k1, k2, k3]) rfl ?_
                exact ⟨⟨pn, 0, [], qs⟩, _, rfl, checkE_of hpn (.inl rfl) (by simp) (by simp [HQL.out]) (by simp) (by simp [isEmpty, HQL.out]) (slots_none _ _ (by simp) (fun c hc => (HQS.out c hc).1)), ⟨⟨by simp; omega, by simp; omega⟩, ⟨by simp, by simp⟩, by simp, fun c hc => (HQS.out c hc).2⟩, ⟨_, _, rfl, World.ownsRow_nil _ _ _ _, by simp only [HQL.out]; exact GR9.out⟩, BF9.out⟩
              · have kp : decide ((0 : Int) < (k : Int)) = true := by simp; omega
                have kp2 : (0 : Int) < (k : Int) := by omega
                go_wp2_with fail
                refine (PL _).mono ?_
                rintro e w9 ⟨y, rfl, hy, hw9⟩
                obtain rfl : wr = w9 := hw9.symm
                clear hw9
                obtain ⟨o1, ox1⟩ := HR.out.page.get 1 _ rfl
                go_upto_region 19 with fail
                refine named (P := Code.wp _ _ _ _) ?_
                intro w10 hw10
                have R10 : Rp w w10 59 2 k [.int .i64 num, .int .i64 lsn, .slice ta cs.length tc, .slice tb gs.length td] [.int .i64 pn, .int .i64 y, .slice none 0 0, .slice av k cv] (.slice av k cv) (grpsC qs) := by rw [hw10]; exact HR.out.stored (j := 1) (u := .int .i64 y) (by simp)
                have HR10 := hide R10
                have fy : fit y := ⟨by omega, by omega⟩
                clear R10 hw10 o1 ox1
                clear g3 x3 h1 hx1 p2 px2 p3 px3 kp kp2 kw
                have K9 := (((((Keep.refl (fun i => i = w.heap.size + 1) w10).setCell (g := w.heap.size + 1) (j := 0) (fun _ => rfl) (.int .i64 pn)).setCell (g := w.heap.size + 1) (j := 1) (fun _ => rfl) (.int .i64 y)).setCell (g := w.heap.size + 1) (j := 2) (fun _ => rfl) (.slice none 0 0)).setCell (g := w.heap.size + 1) (j := 3) (fun _ => rfl) (.slice av k cv))
                have C9 := ((((HR10.out.zero.stored (j := 0) (by simp) (.int .i64 pn)).stored (j := 1) (by simp) (.int .i64 y)).stored (j := 2) (by simp) (.slice none 0 0)).stored (j := 3) (by simp) (.slice av k cv))
                obtain ⟨k0, _⟩ := C9.get 0 _ rfl
                obtain ⟨k1, _⟩ := C9.get 1 _ rfl
                obtain ⟨k2, _⟩ := C9.get 2 _ rfl
                obtain ⟨k3, _⟩ := C9.get 3 _ rfl
                obtain ⟨m0, mx0⟩ := HR10.out.page.get 0 _ rfl
                obtain ⟨m1, mx1⟩ := HR10.out.page.get 1 _ rfl
                obtain ⟨m2, mx2⟩ := HR10.out.page.get 2 _ rfl
                obtain ⟨m3, mx3⟩ := HR10.out.page.get 3 _ rfl
                obtain ⟨z0, zx0⟩ := HR10.out.zero.get 0 _ rfl
                obtain ⟨z1, zx1⟩ := HR10.out.zero.get 1 _ rfl
                obtain ⟨z2, zx2⟩ := HR10.out.zero.get 2 _ rfl
                obtain ⟨z3, zx3⟩ := HR10.out.zero.get 3 _ rfl
                have hlt9 := World.ownsRow.lt HR10.out.row
                have GR9 := hide (GRow.mono (B' := w.heap.size) (HR10.out.row.keep K9 (fun g hg q => by have := (hlt9 g hg).1; omega)) (by omega))
                have BF9 := hide (HR10.out.bel.trans (K9.below HR10.out.bel.size (fun i hi q => by omega)))
                clear K9 C9 hlt9
                go_wp2_with fail
                refine bodyPost_ret (v := .agg #[.int .i64 pn, .int .i64 y, .slice none 0 0, .slice av k cv]) (by simp only [results, Tryd.results34]; simp [go_sem, k0, k1, k2, k3]) rfl ?_
                exact ⟨⟨pn, y, [], qs⟩, _, rfl, checkE_of hpn (.inl rfl) (by simp) (by simp [HQL.out]; omega) (by simp; omega) (by simp [isEmpty, HQL.out]; omega) (slots_none _ _ (by simp) (fun c hc => (HQS.out c hc).1)), ⟨⟨by simp; omega, by simp; omega⟩, fy, by simp, fun c hc => (HQS.out c hc).2⟩, ⟨_, _, rfl, World.ownsRow_nil _ _ _ _, by simp only [HQL.out]; exact GR9.out⟩, BF9.out⟩
      · by_cases hkl : k < cs.length
        · have d1 : decide ((k : Int) < (cs.length : Int)) = true := by simp; omega
          have d2 : decide ((k : Int) < 31) = false := decide_eq_false (by omega)
          have d3 : (k : Int) < (cs.length : Int) := by omega
          have d4 : ¬ (k : Int) < 31 := by omega
          obtain ⟨av, cv, rfl, -, -, -, -, -⟩ := GRow.lies hrp.row
          clear hrp hv0
          go_wp2_with fail
          go_loopw [6] (fun i ws => i = .int .i64 0 ∧ wr = ws) (fun _ _ => 0)
          case atStart => exact ⟨rfl, rfl⟩
          case round =>
            obtain ⟨rfl, rfl⟩ := hrel
            obtain ⟨h3, hx3⟩ := HR.out.head.get 3 _ rfl
            obtain ⟨h1, hx1⟩ := HR.out.head.get 1 _ rfl
            obtain ⟨p2, px2⟩ := HR.out.page.get 2 _ rfl
            obtain ⟨p3, px3⟩ := HR.out.page.get 3 _ rfl
            have kp : decide ((0 : Int) < (k : Int)) = true := by simp; omega
            have kp2 : (0 : Int) < (k : Int) := by omega
            have kp3 : ((k : Int) == 0) = false := decide_eq_false (by omega)
            have kw : IntKind.i64.wrap (k : Int) = (k : Int) := by rw [IntKind.wrap_i64]; omega
            by_cases hg : gs.length = 0
            · have e1 : decide ((0 : Int) < (gs.length : Int)) = false := decide_eq_false (by omega)
              have e2 : ¬ (0 : Int) < (gs.length : Int) := by omega
              go_wp2_with fail
              refine (PL _).mono ?_
              rintro e w9 ⟨y, rfl, hy, hw9⟩
              obtain rfl : wr = w9 := hw9.symm
              clear hw9
              obtain ⟨o1, ox1⟩ := HR.out.page.get 1 _ rfl
              go_upto_region 19 with fail
              refine named (P := Code.wp _ _ _ _) ?_
              intro w10 hw10
              have R10 : Rp w w10 57 5 k [.int .i64 num, .int .i64 lsn, .slice ta cs.length tc, .slice tb gs.length td] [.int .i64 pn, .int .i64 y, .slice av k cv, .slice none 0 0] (.slice av k cv) (ctrsC qs) := by rw [hw10]; exact HR.out.stored (j := 1) (u := .int .i64 y) (by simp)
              have HR10 := hide R10
              have fy : fit y := ⟨by omega, by omega⟩
              clear R10 hw10 o1 ox1
              clear h3 hx3 h1 hx1 p2 px2 p3 px3 kp kp2 kp3 kw
              have K9 := (((((Keep.refl (fun i => i = w.heap.size + 1) w10).setCell (g := w.heap.size + 1) (j := 0) (fun _ => rfl) (.int .i64 pn)).setCell (g := w.heap.size + 1) (j := 1) (fun _ => rfl) (.int .i64 y)).setCell (g := w.heap.size + 1) (j := 2) (fun _ => rfl) (.slice av k cv)).setCell (g := w.heap.size + 1) (j := 3) (fun _ => rfl) (.slice none 0 0))
              have C9 := ((((HR10.out.zero.stored (j := 0) (by simp) (.int .i64 pn)).stored (j := 1) (by simp) (.int .i64 y)).stored (j := 2) (by simp) (.slice av k cv)).stored (j := 3) (by simp) (.slice none 0 0))
              obtain ⟨k0, _⟩ := C9.get 0 _ rfl
              obtain ⟨k1, _⟩ := C9.get 1 _ rfl
              obtain ⟨k2, _⟩ := C9.get 2 _ rfl
              obtain ⟨k3, _⟩ := C9.get 3 _ rfl
              obtain ⟨m0, mx0⟩ := HR10.out.page.get 0 _ rfl
              obtain ⟨m1, mx1⟩ := HR10.out.page.get 1 _ rfl
              obtain ⟨m2, mx2⟩ := HR10.out.page.get 2 _ rfl
              obtain ⟨m3, mx3⟩ := HR10.out.page.get 3 _ rfl
              obtain ⟨z0, zx0⟩ := HR10.out.zero.get 0 _ rfl
              obtain ⟨z1, zx1⟩ := HR10.out.zero.get 1 _ rfl
              obtain ⟨z2, zx2⟩ := HR10.out.zero.get 2 _ rfl
              obtain ⟨z3, zx3⟩ := HR10.out.zero.get 3 _ rfl
              have hlt9 := World.ownsRow.lt HR10.out.row
              have GR9 := hide (GRow.mono (B' := w.heap.size) (HR10.out.row.keep K9 (fun g hg q => by have := (hlt9 g hg).1; omega)) (by omega))
              have BF9 := hide (HR10.out.bel.trans (K9.below HR10.out.bel.size (fun i hi q => by omega)))
              clear K9 C9 hlt9
              go_wp2_with fail
              refine bodyPost_ret (v := .agg #[.int .i64 pn, .int .i64 y, .slice av k cv, .slice none 0 0]) (by simp only [results, Tryd.results34]; simp [go_sem, k0, k1, k2, k3]) rfl ?_
              exact ⟨⟨pn, y, qs, []⟩, _, rfl, checkE_of hpn (.inr rfl) (by simp [HQL.out]; omega) (by simp) (by simp; omega) (by simp [isEmpty, HQL.out]; omega) (slots_none _ _ (fun c hc => (HQS.out c hc).1) (by simp)), ⟨⟨by simp; omega, by simp; omega⟩, fy, fun c hc => (HQS.out c hc).2, by simp⟩, ⟨_, _, rfl, by simp only [HQL.out]; exact GR9.out, World.ownsRow_nil _ _ _ _⟩, BF9.out⟩
            · have e1 : decide ((0 : Int) < (gs.length : Int)) = true := by simp; omega
              have e2 : (0 : Int) < (gs.length : Int) := by omega
              go_wp2_with fail
              refine (PL _).mono ?_
              rintro e w9 ⟨y, rfl, hy, hw9⟩
              obtain rfl : wr = w9 := hw9.symm
              clear hw9
              obtain ⟨o1, ox1⟩ := HR.out.page.get 1 _ rfl
              go_upto_region 19 with fail
              refine named (P := Code.wp _ _ _ _) ?_
              intro w10 hw10
              have R10 : Rp w w10 57 5 k [.int .i64 num, .int .i64 lsn, .slice ta cs.length tc, .slice tb gs.length td] [.int .i64 pn, .int .i64 y, .slice av k cv, .slice none 0 0] (.slice av k cv) (ctrsC qs) := by rw [hw10]; exact HR.out.stored (j := 1) (u := .int .i64 y) (by simp)
              have HR10 := hide R10
              have fy : fit y := ⟨by omega, by omega⟩
              clear R10 hw10 o1 ox1
              clear h3 hx3 h1 hx1 p2 px2 p3 px3 kp kp2 kp3 kw
              have K9 := (((((Keep.refl (fun i => i = w.heap.size + 1) w10).setCell (g := w.heap.size + 1) (j := 0) (fun _ => rfl) (.int .i64 pn)).setCell (g := w.heap.size + 1) (j := 1) (fun _ => rfl) (.int .i64 y)).setCell (g := w.heap.size + 1) (j := 2) (fun _ => rfl) (.slice av k cv)).setCell (g := w.heap.size + 1) (j := 3) (fun _ => rfl) (.slice none 0 0))
              have C9 := ((((HR10.out.zero.stored (j := 0) (by simp) (.int .i64 pn)).stored (j := 1) (by simp) (.int .i64 y)).stored (j := 2) (by simp) (.slice av k cv)).stored (j := 3) (by simp) (.slice none 0 0))
              obtain ⟨k0, _⟩ := C9.get 0 _ rfl
              obtain ⟨k1, _⟩ := C9.get 1 _ rfl
              obtain ⟨k2, _⟩ := C9.get 2 _ rfl
              obtain ⟨k3, _⟩ := C9.get 3 _ rfl
              obtain ⟨m0, mx0⟩ := HR10.out.page.get 0 _ rfl
              obtain ⟨m1, mx1⟩ := HR10.out.page.get 1 _ rfl
              obtain ⟨m2, mx2⟩ := HR10.out.page.get 2 _ rfl
              obtain ⟨m3, mx3⟩ := HR10.out.page.get 3 _ rfl
              obtain ⟨z0, zx0⟩ := HR10.out.zero.get 0 _ rfl
              obtain ⟨z1, zx1⟩ := HR10.out.zero.get 1 _ rfl
              obtain ⟨z2, zx2⟩ := HR10.out.zero.get 2 _ rfl
              obtain ⟨z3, zx3⟩ := HR10.out.zero.get 3 _ rfl
              have hlt9 := World.ownsRow.lt HR10.out.row
              have GR9 := hide (GRow.mono (B' := w.heap.size) (HR10.out.row.keep K9 (fun g hg q => by have := (hlt9 g hg).1; omega)) (by omega))
              have BF9 := hide (HR10.out.bel.trans (K9.below HR10.out.bel.size (fun i hi q => by omega)))
              clear K9 C9 hlt9
              go_wp2_with fail
              refine bodyPost_ret (v := .agg #[.int .i64 pn, .int .i64 y, .slice av k cv, .slice none 0 0]) (by simp only [results, Tryd.results34]; simp [go_sem, k0, k1, k2, k3]) rfl ?_
              exact ⟨⟨pn, y, qs, []⟩, _, rfl, checkE_of hpn (.inr rfl) (by simp [HQL.out]; omega) (by simp) (by simp; omega) (by simp [isEmpty, HQL.out]; omega) (slots_none _ _ (fun c hc => (HQS.out c hc).1) (by simp)), ⟨⟨by simp; omega, by simp; omega⟩, fy, fun c hc => (HQS.out c hc).2, by simp⟩, ⟨_, _, rfl, by simp only [HQL.out]; exact GR9.out, World.ownsRow_nil _ _ _ _⟩, BF9.out⟩
        · have d1 : decide ((k : Int) < (cs.length : Int)) = false := decide_eq_false (by omega)
          have d3 : ¬ (k : Int) < (cs.length : Int) := by omega
          obtain ⟨av, cv, rfl, -, -, -, -, -⟩ := GRow.lies hrp.row
          clear hrp hv0
          go_wp2_with fail
          go_loopw [6] (fun i ws => i = .int .i64 0 ∧ wr = ws) (fun _ _ => 0)
          case atStart => exact ⟨rfl, rfl⟩
          case round =>
            obtain ⟨rfl, rfl⟩ := hrel
            obtain ⟨h3, hx3⟩ := HR.out.head.get 3 _ rfl
            obtain ⟨h1, hx1⟩ := HR.out.head.get 1 _ rfl
            obtain ⟨p2, px2⟩ := HR.out.page.get 2 _ rfl
            obtain ⟨p3, px3⟩ := HR.out.page.get 3 _ rfl
            have kp : decide ((0 : Int) < (k : Int)) = true := by simp; omega
            have kp2 : (0 : Int) < (k : Int) := by omega
            have kp3 : ((k : Int) == 0) = false := decide_eq_false (by omega)
            have kw : IntKind.i64.wrap (k : Int) = (k : Int) := by rw [IntKind.wrap_i64]; omega
            by_cases hg : gs.length = 0
            · have e1 : decide ((0 : Int) < (gs.length : Int)) = false := decide_eq_false (by omega)
              have e2 : ¬ (0 : Int) < (gs.length : Int) := by omega
              go_wp2_with fail
              refine (PL _).mono ?_
              rintro e w9 ⟨y, rfl, hy, hw9⟩
              obtain rfl : wr = w9 := hw9.symm
              clear hw9
              obtain ⟨o1, ox1⟩ := HR.out.page.get 1 _ rfl
              go_upto_region 19 with fail
              refine named (P := Code.wp _ _ _ _) ?_
              intro w10 hw10
              have R10 : Rp w w10 57 5 k [.int .i64 num, .int .i64 lsn, .slice ta cs.length tc, .slice tb gs.length td] [.int .i64 pn, .int .i64 y, .slice av k cv, .slice none 0 0] (.slice av k cv) (ctrsC qs) := by rw [hw10]; exact HR.out.stored (j := 1) (u := .int .i64 y) (by simp)
              have HR10 := hide R10
              have fy : fit y := ⟨by omega, by omega⟩
              clear R10 hw10 o1 ox1
              clear h3 hx3 h1 hx1 p2 px2 p3 px3 kp kp2 kp3 kw
              have K9 := (((((Keep.refl (fun i => i = w.heap.size + 1) w10).setCell (g := w.heap.size + 1) (j := 0) (fun _ => rfl) (.int .i64 pn)).setCell (g := w.heap.size + 1) (j := 1) (fun _ => rfl) (.int .i64 y)).setCell (g := w.heap.size + 1) (j := 2) (fun _ => rfl) (.slice av k cv)).setCell (g := w.heap.size + 1) (j := 3) (fun _ => rfl) (.slice none 0 0))
              have C9 := ((((HR10.out.zero.stored (j := 0) (by simp) (.int .i64 pn)).stored (j := 1) (by simp) (.int .i64 y)).stored (j := 2) (by simp) (.slice av k cv)).stored (j := 3) (by simp) (.slice none 0 0))
              obtain ⟨k0, _⟩ := C9.get 0 _ rfl
              obtain ⟨k1, _⟩ := C9.get 1 _ rfl
              obtain ⟨k2, _⟩ := C9.get 2 _ rfl
              obtain ⟨k3, _⟩ := C9.get 3 _ rfl
              obtain ⟨m0, mx0⟩ := HR10.out.page.get 0 _ rfl
              obtain ⟨m1, mx1⟩ := HR10.out.page.get 1 _ rfl
              obtain ⟨m2, mx2⟩ := HR10.out.page.get 2 _ rfl
              obtain ⟨m3, mx3⟩ := HR10.out.page.get 3 _ rfl
              obtain ⟨z0, zx0⟩ := HR10.out.zero.get 0 _ rfl
              obtain ⟨z1, zx1⟩ := HR10.out.zero.get 1 _ rfl
              obtain ⟨z2, zx2⟩ := HR10.out.zero.get 2 _ rfl
              obtain ⟨z3, zx3⟩ := HR10.out.zero.get 3 _ rfl
              have hlt9 := World.ownsRow.lt HR10.out.row
              have GR9 := hide (GRow.mono (B' := w.heap.size) (HR10.out.row.keep K9 (fun g hg q => by have := (hlt9 g hg).1; omega)) (by omega))
              have BF9 := hide (HR10.out.bel.trans (K9.below HR10.out.bel.size (fun i hi q => by omega)))
              clear K9 C9 hlt9
              go_wp2_with fail
              refine bodyPost_ret (v := .agg #[.int .i64 pn, .int .i64 y, .slice av k cv, .slice none 0 0]) (by simp only [results, Tryd.results34]; simp [go_sem, k0, k1, k2, k3]) rfl ?_
              exact ⟨⟨pn, y, qs, []⟩, _, rfl, checkE_of hpn (.inr rfl) (by simp [HQL.out]; omega) (by simp) (by simp; omega) (by simp [isEmpty, HQL.out]; omega) (slots_none _ _ (fun c hc => (HQS.out c hc).1) (by simp)), ⟨⟨by simp; omega, by simp; omega⟩, fy, fun c hc => (HQS.out c hc).2, by simp⟩, ⟨_, _, rfl, by simp only [HQL.out]; exact GR9.out, World.ownsRow_nil _ _ _ _⟩, BF9.out⟩
            · have e1 : decide ((0 : Int) < (gs.length : Int)) = true := by simp; omega
              have e2 : (0 : Int) < (gs.length : Int) := by omega
              go_wp2_with fail
              refine (PL _).mono ?_
              rintro e w9 ⟨y, rfl, hy, hw9⟩
              obtain rfl : wr = w9 := hw9.symm
              clear hw9
              obtain ⟨o1, ox1⟩ := HR.out.page.get 1 _ rfl
              go_upto_region 19 with fail
              refine named (P := Code.wp _ _ _ _) ?_
              intro w10 hw10
              have R10 : Rp w w10 57 5 k [.int .i64 num, .int .i64 lsn, .slice ta cs.length tc, .slice tb gs.length td] [.int .i64 pn, .int .i64 y, .slice av k cv, .slice none 0 0] (.slice av k cv) (ctrsC qs) := by rw [hw10]; exact HR.out.stored (j := 1) (u := .int .i64 y) (by simp)
              have HR10 := hide R10
              have fy : fit y := ⟨by omega, by omega⟩
              clear R10 hw10 o1 ox1
              clear h3 hx3 h1 hx1 p2 px2 p3 px3 kp kp2 kp3 kw
              have K9 := (((((Keep.refl (fun i => i = w.heap.size + 1) w10).setCell (g := w.heap.size + 1) (j := 0) (fun _ => rfl) (.int .i64 pn)).setCell (g := w.heap.size + 1) (j := 1) (fun _ => rfl) (.int .i64 y)).setCell (g := w.heap.size + 1) (j := 2) (fun _ => rfl) (.slice av k cv)).setCell (g := w.heap.size + 1) (j := 3) (fun _ => rfl) (.slice none 0 0))
              have C9 := ((((HR10.out.zero.stored (j := 0) (by simp) (.int .i64 pn)).stored (j := 1) (by simp) (.int .i64 y)).stored (j := 2) (by simp) (.slice av k cv)).stored (j := 3) (by simp) (.slice none 0 0))
              obtain ⟨k0, _⟩ := C9.get 0 _ rfl
              obtain ⟨k1, _⟩ := C9.get 1 _ rfl
              obtain ⟨k2, _⟩ := C9.get 2 _ rfl
              obtain ⟨k3, _⟩ := C9.get 3 _ rfl
              obtain ⟨m0, mx0⟩ := HR10.out.page.get 0 _ rfl
              obtain ⟨m1, mx1⟩ := HR10.out.page.get 1 _ rfl
              obtain ⟨m2, mx2⟩ := HR10.out.page.get 2 _ rfl
              obtain ⟨m3, mx3⟩ := HR10.out.page.get 3 _ rfl
              obtain ⟨z0, zx0⟩ := HR10.out.zero.get 0 _ rfl
              obtain ⟨z1, zx1⟩ := HR10.out.zero.get 1 _ rfl
              obtain ⟨z2, zx2⟩ := HR10.out.zero.get 2 _ rfl
              obtain ⟨z3, zx3⟩ := HR10.out.zero.get 3 _ rfl
              have hlt9 := World.ownsRow.lt HR10.out.row
              have GR9 := hide (GRow.mono (B' := w.heap.size) (HR10.out.row.keep K9 (fun g hg q => by have := (hlt9 g hg).1; omega)) (by omega))
              have BF9 := hide (HR10.out.bel.trans (K9.below HR10.out.bel.size (fun i hi q => by omega)))
              clear K9 C9 hlt9
              go_wp2_with fail
              refine bodyPost_ret (v := .agg #[.int .i64 pn, .int .i64 y, .slice av k cv, .slice none 0 0]) (by simp only [results, Tryd.results34]; simp [go_sem, k0, k1, k2, k3]) rfl ?_
              exact ⟨⟨pn, y, qs, []⟩, _, rfl, checkE_of hpn (.inr rfl) (by simp [HQL.out]; omega) (by simp) (by simp; omega) (by simp [isEmpty, HQL.out]; omega) (slots_none _ _ (fun c hc => (HQS.out c hc).1) (by simp)), ⟨⟨by simp; omega, by simp; omega⟩, fy, fun c hc => (HQS.out c hc).2, by simp⟩, ⟨_, _, rfl, by simp only [HQL.out]; exact GR9.out, World.ownsRow_nil _ _ _ _⟩, BF9.out⟩
end Go.Proofs.YtakjpljpdlhicaaDoor
