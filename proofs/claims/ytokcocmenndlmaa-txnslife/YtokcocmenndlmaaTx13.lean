import Derived.Test.YtokcocmenndlmaaTx12b
namespace Go.Proofs.Ytokcocmenndlmaa
open Go.RowKit Go.QK Go.Maps Go.QM Go.QT
set_option maxRecDepth 100000
abbrev c2 (p : Int × Int) : List Value := [.int .i64 p.1, .int .i64 p.2]
section
variable {ops : Array Oper} {rest : List Oper} {a : Act} {w : World} {Q : Exit → Act → World → Prop} {d : Option Tmp} {ty : TypeId} {ps : String} {af : Array Edge} {x y : Operand} {b : Nat} {cs cs' : Array Value}
theorem wpList_store51 (hb : RBox w b 51 cs) (hs : cs.size = 17) (hs' : cs'.size = 17) (h1 : cs'.toList.all (·.oneCell') = true) (hx : a.eval x = .pointer (some ⟨b, 0, none⟩)) (hy : a.eval y = .agg cs')
    (h : ∀ w', RBox w' b 51 cs' → Keep (fun k => k = b) w w' → wpList Try.prog ops Q rest (a.put d undef) w') :
    wpList Try.prog ops Q ({ dst := d, op := .store 51 x y, type := ty, pos := ps, after := af, guard := none } :: rest) a w := by
  have hrun := run_storeVar_row (P := Try.prog) w b 51 51 cs cs' hb (size51' hs') (by rw [hs, hs']) (by rw [← Array.all_toList]; exact h1)
  refine wpList_plain rfl fun K hK => ?_
  unfold Oper.wp execOp
  simp only [hx, hy, Instr.storeAt, Instr.sureAddr, Sem.run_bind, Sem.run_pure, Result.andThen_ok, hrun]
  exact hK _ _ (h _ (RBox.setRow hb cs') (keep_setRow _ _ _))
theorem wpList_load51g {g : Option (Nat × Bool)} (hb : RBox w b 51 cs) (hs : cs.size = 17) (hx : a.eval x = .pointer (some ⟨b, 0, none⟩)) (hw : Region.wanted { dst := d, op := .load 51 x, type := ty, pos := ps, after := af, guard := g } (yielded ops a.tmps) = true) (h : wpList Try.prog ops Q rest (a.put d (.agg cs)) w) :
    wpList Try.prog ops Q ({ dst := d, op := .load 51 x, type := ty, pos := ps, after := af, guard := g } :: rest) a w :=
  wpList_step fun _ hK => by
    rw [if_pos hw]
    exact wp_load_row 51 x rfl b hx 51 cs (0, 0) _ hb Try.underlying51 rfl (size51' hs) (hK _ _ h)
end
theorem wp_store51 {o : Oper} {a : Act} {x : World} {K : Act → World → Prop} {Q : Exit → Act → World → Prop} {cond : Bool} {b : Nat} {cs cs' : Array Value} (p y : Operand) (hc : cond = true) (hd : o.dst = none)
    (ho : o.op = .store 51 p y) (hp : a.eval p = .pointer (some ⟨b, 0, none⟩)) (hy : a.eval y = .agg cs') (hb : RBox x b 51 cs) (hs : cs.size = 17) (hs' : cs'.size = 17) (h1 : cs'.toList.all (·.oneCell') = true)
    (h : ∀ x', RBox x' b 51 cs' → Keep (fun k => k = b) x x' → K (a.put none undef) x') : if cond = true then Oper.wp Try.prog o a x K Q else K (a.put o.dst undef) x := by
  rw [if_pos hc]
  have hrun := run_storeVar_row (P := Try.prog) x b 51 51 cs cs' hb (size51' hs') (by rw [hs, hs']) (by rw [← Array.all_toList]; exact h1)
  unfold Oper.wp execOp
  simp only [ho, hp, hy, Instr.storeAt, Instr.sureAddr, Sem.run_bind, Sem.run_pure, Result.andThen_ok, hrun]
  have := h _ (RBox.setRow hb cs') (keep_setRow _ _ _)
  rw [← hd] at this
  exact this
theorem noteB3 (b m : Nat) (t : TbM) (lsn tx : Int) (w : World) (h : PT w b m t) (hl : isLsn lsn = true) (hn : tx ≠ t.next) (hi : I64 tx) : Calls Try.prog 12 #[ptr b, .agg (litR lsn 1 tx 0)] w fun e w' => e = .returned (.int .i64 130) ∧ PT w' b m t ∧ Keep (fun z => z = b ∨ z = m) w w' := by
  refine (note_any b m t (litR lsn 1 tx 0) lsn 1 tx 0 w h (litR_rec _ _ _ _ hi)).mono ?_
  rintro e w' ⟨h1, h2, h3⟩
  obtain ⟨n1, n2⟩ := nB3 (t := t) (tx := tx) hl hn
  rw [n1] at h1
  rw [n2] at h2
  exact ⟨h1, h2, h3⟩
set_option maxHeartbeats 16000000 in
theorem law_life (ms : List (Int × Int)) (sa : Option Addr) (sc : Nat) (w : World) (hli : Lies w sa (rowsC c2 ms)) : Calls Try.prog 4 #[.slice sa ms.length sc] w fun e w' => e = .returned (.bool true) ∧ Below w.heap.size w w' := by
  have KN : ∀ w, Calls Try.prog 6 #[.int .i64 1] w _ := fun w => new_yes 1 w rfl
  have HLI := hide hli
  clear hli
  go_enter Try.func4, Try.ntmps4
  go_wp2_with fail
  refine (KN _).mono ?_
  rintro e w1 ⟨rfl, P1, B1, -⟩
  obtain ⟨b, hb⟩ : ∃ b, b = w.heap.size + 1 := ⟨_, rfl⟩
  obtain ⟨m, hm⟩ : ∃ m, m = w.heap.size := ⟨_, rfl⟩
  have HP1 := hide (show PT w1 b m t1 by rw [hb, hm]; exact P1)
  have LO := hide (show w.heap.size ≤ b ∧ w.heap.size ≤ m by omega)
  have HB1 := hide B1
  rw [← hb]
  clear P1 B1 hb hm KN
  have e1 := fun w => (ptr_nil b 27 (.inl rfl) w).1
  go_upto_region 3 with fail
  go_wp2_with (first | (go_at_call 7; refine (num_eq _ _).mono ?_; rintro e wz ⟨rfl, rfl⟩) | (go_at_call 8; refine (awake_any _).mono ?_; rintro e w2 ⟨rfl, hh⟩; have HP2 := hide (HP1.out.below hh); have HB2 := hide (HB1.out.trans (hh.mono HB1.out.size)); clear hh HP1 HB1))
  clear e1
  go_loopw [5, 6, 7] (fun v nx vi wr => ∃ (k : Nat) (t : TbM), nx = .int .i64 t.next ∧ vi = .int .i64 (k : Int) ∧ k ≤ ms.length ∧ k ≤ 300 ∧ LSt w wr b m t v k) (fun _ _ vi _ => 300 - (intOf vi).toNat)
  case atStart =>
    refine ⟨0, t1, rfl, rfl, Nat.zero_le _, by omega, HP2.out, World.ownsRow_nil _ _ _ _, ?_, by show (1 : Int) ≤ _; omega, ?_, HB2.out, LO.out⟩
    · intro g hg; simp [Value.ownBlock] at hg
    · intro x hx; cases hx
  case round =>
    obtain ⟨k, t, rfl, rfl, hk1, hk2, hS⟩ := hrel
    have ST := hide hS
    clear hS HP2 HB2
    by_cases hlt : k < ms.length
    · by_cases hlt2 : k < 300
      · obtain ⟨bl, off, ha, hbl, hcell⟩ := Lies.rowAt c2 2 (fun _ => rfl) HLI.out k hlt (by omega)
        subst ha
        have y0 : wr.cell? ⟨bl, off + k * 2, none⟩ = some (.int .i64 ms[k].1) := (ST.out.be.cell (p := ⟨bl, off + k * 2, none⟩) hbl).trans (hcell 0 _ rfl)
        have y1 : wr.cell? ⟨bl, off + k * 2 + 1, none⟩ = some (.int .i64 ms[k].2) := (ST.out.be.cell (p := ⟨bl, off + k * 2 + 1, none⟩) hbl).trans (hcell 1 _ rfl)
        have hlt3 : bl < wr.heap.size := Nat.lt_of_lt_of_le hbl ST.out.be.size
        have hk3 : decide ((k : Int) < 300) = true := by simp; omega
        have hk4 : decide ((k : Int) < (ms.length : Int)) = true := by simp; omega
        generalize ms[k].1 = mk at *
        generalize ms[k].2 = mw at *
        clear hcell
        obtain ⟨va, vc, hv, -, -, -, -, -⟩ := GRow.lies ST.out.row
        subst hv
        have few := ST.out.pt.ok.few
        have hlsn : isLsn (2 * (k : Int) + 1) = true := isLsn_of (by omega) (by omega)
        obtain ⟨lsn, hls⟩ : ∃ lsn : Int, lsn = 2 * (k : Int) + 1 := ⟨_, rfl⟩
        have hw1 : wrap64 (2 * (k : Int)) = 2 * (k : Int) := wrapI (by unfold I64; omega)
        have hw2 : wrap64 (2 * (k : Int) + 1) = 2 * (k : Int) + 1 := wrapI (by unfold I64; omega)
        have HLS := hide hlsn
        have HLQ := hide hls
        clear hlsn
        go_upto_region 11 with fail
        rw [← HLQ.out]
        refine named (P := Code.wp _ _ _ _) ?_
        intro w3 hw3
        obtain ⟨mb, hmb⟩ : ∃ mb, mb = wr.heap.size := ⟨_, rfl⟩
        have S3 := hide (show LSt w w3 b m t (.slice va t.L.length vc) k by rw [hw3]; exact ST.out.below (alloc_below _ _))
        have M3 := hide (show Cells w3 mb [.int .i64 mk, .int .i64 mw] by rw [hw3, hmb]; exact Cells.new _ _ _)
        have MB := hide (show b < mb ∧ m < mb ∧ (∀ g, (Value.slice va t.L.length vc).ownBlock = some g → g < mb) by rw [hmb]; exact ⟨ST.out.pt.lt.1, ST.out.pt.lt.2, fun g hg => (World.ownsRow.lt ST.out.row g hg).2⟩)
        rw [← hmb]
        clear hw3 hmb ST y0 y1 hls hw1 hw2
        go_cut [60] from 45 to 60 (fun v w' => ∃ q : Bool, v = .bool q ∧ (q = false → 0 < t.L.length) ∧ w3 = w')
        case first =>
          obtain ⟨z1, -⟩ := M3.out.get 1 _ rfl
          have KR : ∀ w, Calls Try.prog 10 #[.int .i64 mw, .int .i64 4] w _ := fun w => rest_any mw 4 (by omega) (by omega) w
          by_cases hz : t.L.length = 0
          · have d0 : ((t.L.length : Int) == 0) = true := by simp; exact List.eq_nil_of_length_eq_zero hz
            go_wp2_with fail
            go_meet
            exact ⟨true, rfl, (fun q => by cases q), rfl⟩
          · have d0 : ((t.L.length : Int) == 0) = false := by simp; intro q; exact hz (by rw [q]; rfl)
            have HZ := hide hz
            clear hz
            go_wp2_with (go_at_call 10; refine (KR _).mono ?_; rintro e wz ⟨r, hr, rfl, rfl⟩)
            go_meet
            exact ⟨_, rfl, (fun _ => by have := HZ.out; omega), rfl⟩
        case rest =>
          obtain ⟨q, rfl, hq, rfl⟩ := hcut
          have HQ := hide hq
          clear hq
          go_upto_if 60 with fail
          go_cut [5, 6] from 45 to 235 (fun v nx w' => ∃ t' : TbM, nx = .int .i64 t'.next ∧ LSt w w' b m t' v (k + 1))
          case first =>
            cases q
            · -- a record of one that lives
              have hpos := HQ.out rfl
              obtain ⟨g, cap, he, hg1, hg2, hlie, hcap, hcm⟩ := row_pos S3.out.row hpos
              cases he
              have hgb : g < mb := MB.out.2.2 g rfl
              have GN := hide (S3.out.ap g rfl)
              have HLIE := hide hlie
              have CAP := hide (And.intro hcap hcm)
              have KR : ∀ w, Calls Try.prog 10 #[.int .i64 mw, .int .i64 (t.L.length : Int)] w _ := fun w => rest_any mw t.L.length hpos (by omega) w
              obtain ⟨y1, -⟩ := M3.out.get 1 _ rfl
              clear hlie hg1 hg2 hcap hcm
              go_wp2_with fail
              refine (KR _).mono ?_
              rintro e wz ⟨r, hr, rfl, rfl⟩
              clear KR y1
              obtain ⟨b9, o9, ha9, -, p0, p1, p2, p3⟩ := row_at HLIE.out (Below.refl _ _) hr
              cases ha9
              rw [Nat.zero_add] at p0 p1 p2 p3
              obtain ⟨x, hx⟩ : ∃ x, x = t.L[r] := ⟨_, rfl⟩
              rw [← hx] at p0 p1 p2 p3
              have hmem : x ∈ t.L := by rw [hx]; exact List.getElem_mem hr
              have GT := hide (getT_of S3.out.pt.ok.rise hmem)
              have XO := hide (S3.out.pt.ok.each x hmem)
              have XL := hide (show x.last < lsn by rw [HLQ.out]; exact S3.out.la x hmem)
              have XR := hide hx
              clear hx hmem
              have XI := hide (show I64 x.tx by have h1 := XO.out.tx1; have h2 := XO.out.tx2; have h3 := S3.out.pt.ok.n2; unfold I64; omega)
              obtain ⟨z1, z2, z3, z4⟩ := x
              simp only at p0 p1 p2 p3
              go_upto_region 25 with fail
              refine named (P := Code.wp _ _ _ _) ?_
              intro w4 hw4
              obtain ⟨xb, hxb⟩ : ∃ xb, xb = w3.heap.size := ⟨_, rfl⟩
              have S4 := hide (show LSt w w4 b m t (.slice (some ⟨g, 0, none⟩) t.L.length vc) k by rw [hw4]; exact S3.out.below (alloc_below _ _))
              have C4 := hide (show Cells w4 xb (lvC (⟨z1, z2, z3, z4⟩ : Lv)) by rw [hw4, hxb]; exact Cells.new _ _ _)
              have M4 := hide (show Cells w4 mb [.int .i64 mk, .int .i64 mw] by rw [hw4]; exact M3.out.below (alloc_below _ _))
              have XB := hide (show mb < xb ∧ xb < w4.heap.size ∧ g < mb ∧ b < mb ∧ m < mb by rw [hw4, hxb]; have := M3.out.1; have := MB.out; simp; omega)
              rw [← hxb]
              clear hw4 hxb S3 M3 MB p0 p1 p2 p3 hgb HLIE
              have KX := fun w => lnext_any (⟨z1, z2, z3, z4⟩ : Lv) mk w XO.out.one
              have KW := fun w => lwrong_any (⟨z1, z2, z3, z4⟩ : Lv) mk w XO.out.one
              unfold lvV at KX KW
              go_cut [16] from 141 to 150 (fun v w' => ∃ rb kk, v = ptr rb ∧ RBox w' rb 51 (litR lsn kk z1 z2) ∧ KindOk (⟨z1, z2, z3, z4⟩ : Lv) true kk ∧ Below w4.heap.size w4 w' ∧ w4.heap.size ≤ rb)
              case first =>
                as_aux_lemma =>
                  refine wp_region_held_drew (S := fun wq => Below w4.heap.size w4 wq) (by kernel_rfl) (Below.refl _ _).drew (fun hS => ?_)
                  refine take_at 0 (some 141) (v := ?_) rfl rfl (by kernel_rfl) (by kernel_rfl) (by kernel_rfl) (fun _ _ _ h => h) ⟨by rfl, ?_⟩ hS ?_
                  rotate_left
                  · intro wq hSw; go_simp; try rfl
                  simp only [Act.put, List.setIfInBounds_toArray, List.set_cons_zero, List.set_cons_succ]
                  refine take_at 1 (some 142) (v := ?_) rfl rfl (by kernel_rfl) (by kernel_rfl) (by kernel_rfl) (fun _ _ _ h => h) ⟨by rfl, ?_⟩ hS ?_
                  rotate_left
                  · intro wq hSw; have qq := C4.out.below hSw; obtain ⟨q0, _⟩ := qq.get 0 _ rfl; obtain ⟨q1, _⟩ := qq.get 1 _ rfl; obtain ⟨q2, _⟩ := qq.get 2 _ rfl; obtain ⟨q3, _⟩ := qq.get 3 _ rfl; clear qq; go_simp; try rfl
                  simp only [Act.put, List.setIfInBounds_toArray, List.set_cons_zero, List.set_cons_succ]
                  refine take_at 2 (some 143) (v := ?_) rfl rfl (by kernel_rfl) (by kernel_rfl) (by kernel_rfl) (fun _ _ _ h => h) ⟨by rfl, ?_⟩ hS ?_
                  rotate_left
                  · intro wq hSw; go_simp; try rfl
                  simp only [Act.put, List.setIfInBounds_toArray, List.set_cons_zero, List.set_cons_succ]
                  refine take_at 3 (some 144) (v := ?_) rfl rfl (by kernel_rfl) (by kernel_rfl) (by kernel_rfl) (fun _ _ _ h => h) ⟨by rfl, ?_⟩ hS ?_
                  rotate_left
                  · intro wq hSw; have q := ((M4.out.below hSw).get 0 _ rfl).1; go_simp; try rfl
                  simp only [Act.put, List.setIfInBounds_toArray, List.set_cons_zero, List.set_cons_succ]
                  refine take_at 5 (some 146) (v := ?_) rfl rfl (by kernel_rfl) (by kernel_rfl) (by kernel_rfl) (fun _ _ _ h => h) ⟨by rfl, ?_⟩ hS ?_
                  rotate_left
                  · intro wq hSw; go_simp; try rfl
                  simp only [Act.put, List.setIfInBounds_toArray, List.set_cons_zero, List.set_cons_succ]
                  refine take_at 6 (some 147) (v := ?_) rfl rfl (by kernel_rfl) (by kernel_rfl) (by kernel_rfl) (fun _ _ _ h => h) ⟨by rfl, ?_⟩ hS ?_
                  rotate_left
                  · intro wq hSw; have q := ((C4.out.below hSw).get 0 _ rfl).1; go_simp; try rfl
                  simp only [Act.put, List.setIfInBounds_toArray, List.set_cons_zero, List.set_cons_succ]
                  refine take_at 7 (some 148) (v := ?_) rfl rfl (by kernel_rfl) (by kernel_rfl) (by kernel_rfl) (fun _ _ _ h => h) ⟨by rfl, ?_⟩ hS ?_
                  rotate_left
                  · intro wq hSw; go_simp; try rfl
                  simp only [Act.put, List.setIfInBounds_toArray, List.set_cons_zero, List.set_cons_succ]
                  refine take_at 8 (some 149) (v := ?_) rfl rfl (by kernel_rfl) (by kernel_rfl) (by kernel_rfl) (fun _ _ _ h => h) ⟨by rfl, ?_⟩ hS ?_
                  rotate_left
                  · intro wq hSw; have q := ((C4.out.below hSw).get 1 _ rfl).1; go_simp; try rfl
                  simp only [Act.put, List.setIfInBounds_toArray, List.set_cons_zero, List.set_cons_succ]
                  have D1 := hide hS
                  clear hS
                  generalize w4.drew = x1 at *
                  refine wpAnyH_ready (rs := [4, 10]) (by kernel_rfl) (by simp) ?_
                  refine AllReadyH.cons rfl (fun K hK => ?_) (AllReadyH.cons rfl (fun K hK => ?_) AllReadyH.nil)
                  · go_simp
                    go_wp2_with fail
                    refine (KX _).mono ?_
                    rintro e x2 ⟨kk, rfl, hkk, hb⟩
                    have KK := hide hkk
                    have LO := hide (show w4.heap.size ≤ x2.heap.size from Nat.le_trans D1.out.size hb.size)
                    have D2 := hide (D1.out.trans (hb.mono D1.out.size))
                    clear hb hkk
                    go_wp2_with fail
                    refine hK.out _ _ D2.out (fun hS => ?_)
                    clear hK K
                    (try simp only [Act.put, List.setIfInBounds_toArray, List.set_cons_zero, List.set_cons_succ])
                    refine take_at 9 (some 150) (v := ?_) rfl rfl (by kernel_rfl) (by kernel_rfl) (by kernel_rfl) (fun _ _ _ h => h) ⟨by rfl, ?_⟩ hS ?_
                    rotate_left
                    · intro wq hSw; go_simp; try rfl
                    simp only [Act.put, List.setIfInBounds_toArray, List.set_cons_zero, List.set_cons_succ]
                    clear hS
                    refine wpAnyH_ready (rs := [10]) (by kernel_rfl) (by simp) ?_
                    refine AllReadyH.cons rfl (fun K hK => ?_) AllReadyH.nil
                    go_simp
                    go_wp2_with fail
                    refine hK.out _ _ (D2.out.alloc D2.out.size _) (fun hS => ?_)
                    clear hK K hS
                    (try simp only [Act.put, List.setIfInBounds_toArray, List.set_cons_zero, List.set_cons_succ])
                    refine wpAnyH_ready (rs := [11]) (by kernel_rfl) (by simp) ?_
                    refine AllReadyH.cons rfl (fun K hK => ?_) AllReadyH.nil
                    refine wp_store51 (.tmp 16) (.tmp 150) rfl rfl rfl rfl rfl (RBox.new x2 (litR 0 0 0 0) 51) rfl rfl rfl ?_
                    intro x3 hx3 k3
                    have X3 := hide hx3
                    have B3 := hide (show Below w4.heap.size w4 x3 from (D2.out.alloc D2.out.size (.cells (litR 0 0 0 0) 51)).trans (k3.below (D2.out.alloc D2.out.size (.cells (litR 0 0 0 0) 51)).size (fun z hz q => by have := LO.out; omega)))
                    clear hx3 k3
                    refine hK.out _ _ B3.out (fun hS => ?_)
                    clear hK K hS
                    (try simp only [Act.put])
                    refine wpAnyH_done (by kernel_rfl) ?_ _
                    go_wp2_with fail
                    go_meet
                    exact ⟨_, kk, rfl, X3.out, KK.out, B3.out, LO.out⟩
                  · go_simp
                    go_wp2_with fail
                    refine hK.out _ _ (D1.out.alloc D1.out.size _) (fun hS => ?_)
                    clear hK K hS
                    (try simp only [Act.put, List.setIfInBounds_toArray, List.set_cons_zero, List.set_cons_succ])
                    have TB := hide (RBox.new x1 (litR 0 0 0 0) 51)
                    have LO := hide (show w4.heap.size ≤ x1.heap.size from D1.out.size)
                    have D1b := hide (D1.out.alloc D1.out.size (.cells (litR 0 0 0 0) 51))
                    clear D1
                    generalize x1.heap.size = tb at *
                    refine wpAnyH_ready (rs := [4]) (by kernel_rfl) (by simp) ?_
                    refine AllReadyH.cons rfl (fun K hK => ?_) AllReadyH.nil
                    go_simp
                    go_wp2_with fail
                    refine (KX _).mono ?_
                    rintro e x2 ⟨kk, rfl, hkk, hb⟩
                    have KK := hide hkk
                    have D2 := hide (D1b.out.trans (hb.mono D1b.out.size))
                    have T2 := hide (TB.out.below hb)
                    clear hb hkk
                    go_wp2_with fail
                    refine hK.out _ _ D2.out (fun hS => ?_)
                    clear hK K D1b TB
                    (try simp only [Act.put, List.setIfInBounds_toArray, List.set_cons_zero, List.set_cons_succ])
                    refine take_at 9 (some 150) (v := ?_) rfl rfl (by kernel_rfl) (by kernel_rfl) (by kernel_rfl) (fun _ _ _ h => h) ⟨by rfl, ?_⟩ hS ?_
                    rotate_left
                    · intro wq hSw; go_simp; try rfl
                    simp only [Act.put, List.setIfInBounds_toArray, List.set_cons_zero, List.set_cons_succ]
                    clear hS
                    refine wpAnyH_ready (rs := [11]) (by kernel_rfl) (by simp) ?_
                    refine AllReadyH.cons rfl (fun K hK => ?_) AllReadyH.nil
                    refine wp_store51 (.tmp 16) (.tmp 150) rfl rfl rfl rfl rfl T2.out rfl rfl rfl ?_
                    intro x3 hx3 k3
                    have X3 := hide hx3
                    have B3 := hide (show Below w4.heap.size w4 x3 from (D2.out).trans (k3.below (D2.out).size (fun z hz q => by have := LO.out; omega)))
                    clear hx3 k3
                    refine hK.out _ _ B3.out (fun hS => ?_)
                    clear hK K hS
                    (try simp only [Act.put])
                    refine wpAnyH_done (by kernel_rfl) ?_ _
                    go_wp2_with fail
                    go_meet
                    exact ⟨_, kk, rfl, X3.out, KK.out, B3.out, LO.out⟩
              case rest =>
                as_aux_lemma =>
                  obtain ⟨rb, kk, rfl, hx5, hkk, hb5, hrb⟩ := hcut
                  have KK := hide hkk
                  have S5 := hide (S4.out.below hb5)
                  have C5 := hide (C4.out.below hb5)
                  have M5 := hide (M4.out.below hb5)
                  have X5 := hide hx5
                  have RB := hide (show mb < xb ∧ xb < rb ∧ rb < wc.heap.size ∧ g < mb ∧ b < mb ∧ m < mb by have := XB.out; have := hx5.lt; omega)
                  clear hx5 hb5 hrb hkk S4 C4 M4 XB KX
                  go_upto_region 27 with (first | refine wpList_load51 X5.out rfl rfl ?_ | (refine wpList_store51 (RBox.new _ (litR 0 0 0 0) 51) rfl rfl rfl rfl rfl ?_; intro w6 hx hk))
                  have hb6 := newBox hk
                  have S6 := hide (S5.out.below hb6)
                  have C6 := hide (C5.out.below hb6)
                  have M6 := hide (M5.out.below hb6)
                  have X6 := hide (X5.out.below hb6)
                  have Y6 := hide hx
                  have R6 := hide (show rb < wc.heap.size ∧ wc.heap.size < w6.heap.size from ⟨RB.out.2.2.1, hx.lt⟩)
                  clear hx hk hb6 S5 C5 M5 X5
                  generalize wc.heap.size = r17 at *
                  clear wc
                  have qq := C6.out
                  obtain ⟨q0, -⟩ := qq.get 0 _ rfl
                  obtain ⟨q1, -⟩ := qq.get 1 _ rfl
                  obtain ⟨q2, -⟩ := qq.get 2 _ rfl
                  obtain ⟨q3, -⟩ := qq.get 3 _ rfl
                  obtain ⟨m0, -⟩ := M6.out.get 0 _ rfl
                  clear qq
                  go_wp2_with fail
                  refine (KW _).mono ?_
                  rintro e w7 ⟨k2, rfl, hk2, hb7⟩
                  have KK2 := hide hk2
                  have Y7 := hide (Y6.out.below hb7)
                  obtain ⟨c1, f1⟩ := Y7.out.cells.get 1 _ rfl
                  have S7 := hide (S6.out.below hb7)
                  have C7 := hide (C6.out.below hb7)
                  have X7 := hide (X6.out.below hb7)
                  have L7 := hide (show w6.heap.size ≤ w7.heap.size from hb7.size)
                  clear hk2 hb7 q0 q1 q2 q3 m0 KW S6 C6 M6 X6 Y6
                  go_upto_region 28 with fail
                  refine named (P := Code.wp _ _ _ _) ?_
                  intro w8 hw8
                  have k8 : Keep (fun z => z = r17) w7 w8 := by rw [hw8]; exact (Keep.refl (fun z => z = r17) w7).setCell (g := r17) (j := 1) (fun _ => rfl) _
                  have Y8 := hide (show RBox w8 r17 51 (litR lsn k2 z1 z2) by rw [hw8]; exact RBox.setCell Y7.out 1 _)
                  have BND : ∀ q, mb ≤ q → b < q ∧ m < q ∧ (∀ g0, (Value.slice (some ⟨g, 0, none⟩) t.L.length vc).ownBlock = some g0 → g0 < q) := fun q hq => by have := RB.out; exact ⟨by omega, by omega, fun g0 hg0 => (show g = g0 by simpa [Value.ownBlock] using hg0) ▸ (by omega)⟩
                  have HBND := hide BND
                  clear BND
                  have S8 := hide (S7.out.aside k8 (HBND.out r17 (by have := RB.out; have := R6.out; omega)).1 (HBND.out r17 (by have := RB.out; have := R6.out; omega)).2.1 (HBND.out r17 (by have := RB.out; have := R6.out; omega)).2.2)
                  have C8 := hide (C7.out.keep k8 (by have := RB.out; have := R6.out; omega))
                  have X8 := hide (X7.out.keep k8 (by have := RB.out; have := R6.out; omega))
                  clear hw8 k8 c1 f1 Y7 S7 C7 X7 L7
                  go_upto_region 29 with (first | refine wpList_load51 X8.out rfl rfl ?_ | (refine wpList_store51 (RBox.new _ (litR 0 0 0 0) 51) rfl rfl rfl rfl rfl ?_; intro w9 hx hk))
                  have hb9 := newBox hk
                  have S9 := hide (S8.out.below hb9)
                  have C9 := hide (C8.out.below hb9)
                  have X9 := hide (X8.out.below hb9)
                  have Y9 := hide (Y8.out.below hb9)
                  have Z9 := hide hx
                  have R9 := hide (show r17 < w8.heap.size from Y8.out.lt)
                  clear hk hb9 S8 C8 X8 Y8
                  obtain ⟨c1, -⟩ := C9.out.get 1 _ rfl
                  obtain ⟨d0, f0⟩ := hx.cells.get 0 _ rfl
                  clear hx
                  generalize w8.heap.size = r18 at *
                  clear w8
                  go_upto_region 30 with fail
                  refine named (P := Code.wp _ _ _ _) ?_
                  intro w10 hw10
                  have k10 : Keep (fun z => z = r18) w9 w10 := by rw [hw10]; exact (Keep.refl (fun z => z = r18) w9).setCell (g := r18) (j := 0) (fun _ => rfl) _
                  have Z10 := hide (show RBox w10 r18 51 (litR z2 kk z1 z2) by rw [hw10]; exact RBox.setCell Z9.out 0 _)
                  have S10 := hide (S9.out.aside k10 (HBND.out r18 (by have := RB.out; have := R6.out; have := R9.out; omega)).1 (HBND.out r18 (by have := RB.out; have := R6.out; have := R9.out; omega)).2.1 (HBND.out r18 (by have := RB.out; have := R6.out; have := R9.out; omega)).2.2)
                  have C10 := hide (C9.out.keep k10 (by have := RB.out; have := R6.out; have := R9.out; omega))
                  have X10 := hide (X9.out.keep k10 (by have := RB.out; have := R6.out; have := R9.out; omega))
                  have Y10 := hide (Y9.out.keep k10 (by have := R9.out; omega))
                  clear hw10 k10 c1 d0 f0 S9 C9 X9 Y9 Z9
                  go_upto_region 31 with (first | refine wpList_load51 X10.out rfl rfl ?_ | (refine wpList_store51 (RBox.new _ (litR 0 0 0 0) 51) rfl rfl rfl rfl rfl ?_; intro w11 hx hk))
                  have hb9 := newBox hk
                  have S11 := hide (S10.out.below hb9)
                  have C11 := hide (C10.out.below hb9)
                  have X11 := hide (X10.out.below hb9)
                  have Y11 := hide (Y10.out.below hb9)
                  have Z11 := hide (Z10.out.below hb9)
                  have V11 := hide hx
                  have R11 := hide (show r18 < w10.heap.size from Z10.out.lt)
                  clear hk hb9 S10 C10 X10 Y10 Z10
                  obtain ⟨c1, -⟩ := C11.out.get 1 _ rfl
                  obtain ⟨d0, f0⟩ := hx.cells.get 3 _ rfl
                  clear hx
                  generalize w10.heap.size = r19 at *
                  clear w10
                  have hwz : wrap64 (z2 + 1) = z2 + 1 := wrapI (by have h1 := XO.out.l1; have h2 := XO.out.l2; simp only at h1 h2; unfold I64; omega)
                  go_upto_region 32 with fail
                  refine named (P := Code.wp _ _ _ _) ?_
                  intro w12 hw12
                  have k12 : Keep (fun z => z = r19) w11 w12 := by rw [hw12]; exact (Keep.refl (fun z => z = r19) w11).setCell (g := r19) (j := 3) (fun _ => rfl) _
                  have V12 := hide (show RBox w12 r19 51 (litR lsn kk z1 (z2 + 1)) by rw [hw12]; exact RBox.setCell V11.out 3 _)
                  have ORD := hide (show mb < xb ∧ xb < rb ∧ rb < r17 ∧ r17 < r18 ∧ r18 < r19 ∧ g < mb ∧ b < mb ∧ m < mb by have := RB.out; have := R6.out; have := R9.out; have := R11.out; omega)
                  have S12 := hide (S11.out.aside k12 (HBND.out r19 (by have := ORD.out; omega)).1 (HBND.out r19 (by have := ORD.out; omega)).2.1 (HBND.out r19 (by have := ORD.out; omega)).2.2)
                  have C12 := hide (C11.out.keep k12 (by have := ORD.out; omega))
                  have X12 := hide (X11.out.keep k12 (by have := ORD.out; omega))
                  have Y12 := hide (Y11.out.keep k12 (by have := ORD.out; omega))
                  have Z12 := hide (Z11.out.keep k12 (by have := ORD.out; omega))
                  clear hw12 k12 c1 d0 f0 hwz S11 C11 X11 Y11 Z11 V11 RB R6 R9 R11 HBND
                  have N1 := nE_bad (t := t) (x := (⟨z1, z2, z3, z4⟩ : Lv)) (lsn := lsn) GT.out (by rw [HLQ.out]; exact HLS.out) XL.out KK2.out
                  have N2 := nE_late (t := t) (x := (⟨z1, z2, z3, z4⟩ : Lv)) (k := kk) GT.out (isLsn_of XO.out.l1 XO.out.l2) KK.out.1 KK.out.2.1
                  have N3 := nE_far (t := t) (x := (⟨z1, z2, z3, z4⟩ : Lv)) (lsn := lsn) (k := kk) GT.out (by rw [HLQ.out]; exact HLS.out) KK.out.1 KK.out.2.1
                  have N4 := nE_ok (t := t) (x := (⟨z1, z2, z3, z4⟩ : Lv)) (lsn := lsn) GT.out (by rw [HLQ.out]; exact HLS.out) XL.out KK.out
                  simp only at N1 N2 N3 N4
                  have K1 := fun w' (h : PT w' b m t) => noteX b m t t lsn k2 z1 z2 70 w' h XI.out N1.1 N1.2
                  have K2 := fun w' (h : PT w' b m t) => noteX b m t t z2 kk z1 z2 4 w' h XI.out N2.1 N2.2
                  have K3 := fun w' (h : PT w' b m t) => noteX b m t t lsn kk z1 (z2 + 1) 4 w' h XI.out N3.1 N3.2
                  have K4 := fun w' (h : PT w' b m t) => noteX b m t (t.noteT lsn kk z1 z2) lsn kk z1 z2 0 w' h XI.out N4.1 rfl
                  have N5 := hide N4.2
                  clear N1 N2 N3 N4
                  go_wp2_with (refine wpList_load51 Y12.out rfl rfl ?_)
                  refine (K1 _ S12.out.pt).mono ?_
                  rintro e w13 ⟨rfl, p, kp⟩
                  have S13 := hide (S12.out.noted p kp)
                  have C13 := hide (C12.out.keep kp (by have := ORD.out; omega))
                  have X13 := hide (X12.out.keep kp (by have := ORD.out; omega))
                  have Z13 := hide (Z12.out.keep kp (by have := ORD.out; omega))
                  have V13 := hide (V12.out.keep kp (by have := ORD.out; omega))
                  clear p kp S12 C12 X12 Z12 V12
                  clear Y12 K1
                  go_wp2_with (first | (go_at_call 7; refine (num_eq _ _).mono ?_; rintro e wz ⟨rfl, rfl⟩) | refine wpList_load51g Z13.out rfl rfl rfl ?_)
                  refine (K2 _ S13.out.pt).mono ?_
                  rintro e w14 ⟨rfl, p, kp⟩
                  have S14 := hide (S13.out.noted p kp)
                  have C14 := hide (C13.out.keep kp (by have := ORD.out; omega))
                  have X14 := hide (X13.out.keep kp (by have := ORD.out; omega))
                  have Z14 := hide (Z13.out.keep kp (by have := ORD.out; omega))
                  have V14 := hide (V13.out.keep kp (by have := ORD.out; omega))
                  clear p kp S13 C13 X13 Z13 V13
                  clear K2
                  go_wp2_with (first | (go_at_call 7; refine (num_eq _ _).mono ?_; rintro e wz ⟨rfl, rfl⟩) | refine wpList_load51g V14.out rfl rfl rfl ?_)
                  refine (K3 _ S14.out.pt).mono ?_
                  rintro e w15 ⟨rfl, p, kp⟩
                  have S15 := hide (S14.out.noted p kp)
                  have C15 := hide (C14.out.keep kp (by have := ORD.out; omega))
                  have X15 := hide (X14.out.keep kp (by have := ORD.out; omega))
                  have Z15 := hide (Z14.out.keep kp (by have := ORD.out; omega))
                  have V15 := hide (V14.out.keep kp (by have := ORD.out; omega))
                  clear p kp S14 C14 X14 Z14 V14
                  clear K3 Z15 V15
                  go_wp2_with (first | (go_at_call 7; refine (num_eq _ _).mono ?_; rintro e wz ⟨rfl, rfl⟩) | refine wpList_load51g X15.out rfl rfl rfl ?_)
                  refine (K4 _ S15.out.pt).mono ?_
                  rintro e w16 ⟨rfl, p, kp⟩
                  have P16 := hide p
                  have K16 := hide kp
                  have RW := hide (S15.out.rowK kp)
                  have B16 := hide (S15.out.keepB kp)
                  have C16 := hide (C15.out.keep kp (by have := ORD.out; omega))
                  have X16 := hide (X15.out.keep kp (by have := ORD.out; omega))
                  have SS := hide (And.intro S15.out.nx (And.intro S15.out.la S15.out.lo))
                  have OKT := hide S15.out.pt.ok
                  clear p kp K16 S15 C15 X15 K4
                  obtain ⟨c0, -⟩ := C16.out.get 0 _ rfl
                  obtain ⟨c1, f1⟩ := C16.out.get 1 _ rfl
                  obtain ⟨c2, f2⟩ := C16.out.get 2 _ rfl
                  obtain ⟨c3, f3⟩ := C16.out.get 3 _ rfl
                  obtain ⟨kc, -⟩ := X16.out.cells.get 1 _ rfl
                  obtain ⟨gg, gcap, he, -, hg2, hlie, -, -⟩ := row_pos RW.out hpos
                  cases he
                  obtain ⟨b9, o9, ha9, -, p0, p1, p2, p3⟩ := row_at hlie (Below.refl _ _) hr
                  cases ha9
                  rw [Nat.zero_add] at p0 p1 p2 p3
                  rw [← XR.out] at p0 p1 p2 p3
                  simp only at p0 p1 p2 p3
                  have hf := row_frozen RW.out
                  have fr0 := hf (r * 4)
                  have fr1 := hf (r * 4 + 1)
                  have fr2 := hf (r * 4 + 2)
                  have fr3 := hf (r * 4 + 3)
                  clear hlie hf
                  have hne : ¬ xb = g := by have := ORD.out; omega
                  have hne2 : ¬ g = xb := by have := ORD.out; omega
                  have hne3 : ¬ rb = xb := by have := ORD.out; omega
                  have hne4 : ¬ xb = rb := by have := ORD.out; omega
                  have hne5 : ¬ rb = g := by have := ORD.out; omega
                  have hne6 : ¬ g = rb := by have := ORD.out; omega
                  rcases (show kk = 7 ∨ kk = 5 ∨ kk = 6 ∨ (kk ≠ 5 ∧ kk ≠ 6 ∧ kk ≠ 7) by omega) with e5 | e5 | e5 | ⟨e5, e6, e7⟩
                  · as_aux_lemma =>
                      subst e5
                      go_upto_region 38 with (go_at_call 7; refine (num_eq _ _).mono ?_; rintro e wz ⟨rfl, rfl⟩)
                      refine named (P := Code.wp _ _ _ _) ?_
                      intro w20 hw20
                      obtain ⟨rw20, k20⟩ := wrote4 RW.out hr ⟨z1, lsn, z3, z4⟩ hne2 hw20
                      have GL := hide (World.ownsRow.lt RW.out g rfl).1
                      clear hw20 c0 c1 c2 c3 f1 f2 f3 p0 p1 p2 p3 fr0 fr1 fr2 fr3
                      have HT := hide (N5.out.1 (by trivial))
                      have P20 := hide (P16.out.keep k20 (by have := ORD.out; have := GN.out; omega) (by have := ORD.out; have := GN.out; omega))
                      have X20 := hide (X16.out.keep k20 (by have := ORD.out; have := GN.out; omega))
                      have RW20 := hide rw20
                      have B20 := hide (B16.out.trans (k20.below B16.out.size (fun z hz q => by have := ORD.out; have := GN.out; have := GL.out; omega)))
                      obtain ⟨kc2, -⟩ := X20.out.cells.get 1 _ rfl
                      clear rw20 k20 kc RW P16 C16 X16 B16
                      have hwr : IntKind.i64.wrap ((r : Int) + 1) = (r : Int) + 1 := wrapK (by unfold I64; omega)
                      have hcp := CAP.out.1
                      go_upto_region 39 with fail
                      refine wp_region_held_drew (S := fun _ => True) (by kernel_rfl) trivial (fun hS => ?_)
                      have D20 := hide ((Below.refl w20.heap.size w20).drew)
                      generalize w20.drew = x0 at *
                      obtain ⟨v1, x1, v2, x2, r1, r2, o2, hv2, hb2⟩ := cut_row (GRow.below RW20.out D20.out) (by simp) hr (by omega) (Nat.le_trans B20.out.size D20.out.size) hcp
                      rw [set_cut OKT.out.rise hr ⟨z1, lsn, z3, z4⟩, ← XR.out] at o2
                      simp only at o2
                      have O2 := hide o2
                      have BZ := hide (D20.out.trans (hb2.mono D20.out.size))
                      have HR1 := hide r1
                      have HR2 := hide r2
                      have HV2 := hide (fun q (hq : v2.ownBlock = some q) => Nat.le_trans D20.out.size (hv2 q hq))
                      clear o2 r1 r2 hv2 hb2
                      refine take_at 0 (some 217) (v := ?_) rfl rfl (by kernel_rfl) (by kernel_rfl) (by kernel_rfl) (fun _ _ _ h => h) ⟨by rfl, ?_⟩ hS ?_
                      rotate_left
                      · intro wq hSw; go_simp; try rfl
                      simp only [Act.put, List.setIfInBounds_toArray, List.set_cons_zero, List.set_cons_succ]
                      refine take_at 1 (some 218) (v := ?_) rfl rfl (by kernel_rfl) (by kernel_rfl) (by kernel_rfl) (fun _ _ _ h => h) ⟨by rfl, ?_⟩ hS ?_
                      rotate_left
                      · intro wq hSw; go_simp; try rfl
                      simp only [Act.put, List.setIfInBounds_toArray, List.set_cons_zero, List.set_cons_succ]
                      refine take_at 2 (some 219) (v := ?_) rfl rfl (by kernel_rfl) (by kernel_rfl) (by kernel_rfl) (fun _ _ _ h => h) ⟨by rfl, ?_⟩ hS ?_
                      rotate_left
                      · intro wq hSw; have q := slice_to4 Try.underlying56 Try.sizeOf58 ⟨g, 0, none⟩ t.L.length vc r wq (by omega) hcp; go_simp; try rfl
                      simp only [Act.put, List.setIfInBounds_toArray, List.set_cons_zero, List.set_cons_succ]
                      refine take_at 4 (some 221) (v := ?_) rfl rfl (by kernel_rfl) (by kernel_rfl) (by kernel_rfl) (fun _ _ _ h => h) ⟨by rfl, ?_⟩ hS ?_
                      rotate_left
                      · intro wq hSw; go_simp; try rfl
                      simp only [Act.put, List.setIfInBounds_toArray, List.set_cons_zero, List.set_cons_succ]
                      refine take_at 5 (some 222) (v := ?_) rfl rfl (by kernel_rfl) (by kernel_rfl) (by kernel_rfl) (fun _ _ _ h => h) ⟨by rfl, ?_⟩ hS ?_
                      rotate_left
                      · intro wq hSw; go_simp; try rfl
                      simp only [Act.put, List.setIfInBounds_toArray, List.set_cons_zero, List.set_cons_succ]
                      refine take_at 6 (some 223) (v := ?_) rfl rfl (by kernel_rfl) (by kernel_rfl) (by kernel_rfl) (fun _ _ _ h => h) ⟨by rfl, ?_⟩ hS ?_
                      rotate_left
                      · intro wq hSw; go_simp; try rfl
                      simp only [Act.put, List.setIfInBounds_toArray, List.set_cons_zero, List.set_cons_succ]
                      refine take_at 7 (some 224) (v := ?_) rfl rfl (by kernel_rfl) (by kernel_rfl) (by kernel_rfl) (fun _ _ _ h => h) ⟨by rfl, ?_⟩ hS ?_
                      rotate_left
                      · intro wq hSw; have q := slice_from4' Try.underlying56 Try.sizeOf58 (some ⟨g, 0, none⟩) t.L.length vc r wq (by omega) hcp; go_simp; try rfl
                      simp only [Act.put, List.setIfInBounds_toArray, List.set_cons_zero, List.set_cons_succ]
                      refine wpAnyH_ready (rs := [3]) (by kernel_rfl) (by simp) ?_
                      refine AllReadyH.cons rfl (fun K hK => ?_) AllReadyH.nil
                      refine wp_run 220 (.const (.slice none 0 0)) (.tmp 219) rfl rfl rfl rfl rfl HR1.out ?_
                      refine hK.out _ _ trivial (fun hS => ?_)
                      clear hK K
                      (try simp only [Act.put, List.setIfInBounds_toArray, List.set_cons_zero, List.set_cons_succ])
                      refine wpAnyH_ready (rs := [8]) (by kernel_rfl) (by simp) ?_
                      refine AllReadyH.cons rfl (fun K hK => ?_) AllReadyH.nil
                      refine wp_run 225 (.tmp 220) (.tmp 224) rfl rfl rfl rfl rfl HR2.out ?_
                      refine hK.out _ _ trivial (fun hS => ?_)
                      clear hK K
                      (try simp only [Act.put, List.setIfInBounds_toArray, List.set_cons_zero, List.set_cons_succ])
                      refine take_at 9 (some 5) (v := ?_) rfl rfl (by kernel_rfl) (by kernel_rfl) (by kernel_rfl) (fun _ _ _ h => h) ⟨by rfl, ?_⟩ hS ?_
                      rotate_left
                      · intro wq hSw; go_simp; try rfl
                      simp only [Act.put, List.setIfInBounds_toArray, List.set_cons_zero, List.set_cons_succ]
                      clear hS
                      refine wpAnyH_done (by kernel_rfl) ?_ _
                      obtain ⟨t', ht'⟩ : ∃ t', t' = t.noteT lsn 7 z1 z2 := ⟨_, rfl⟩
                      rw [← ht'] at HT P20
                      have HT2 := hide HT.out
                      clear HT
                      have PZ := hide (P20.out.below BZ.out)
                      have XZ := hide (X20.out.below BZ.out)
                      have TZ := hide (show LSt w x2 b m t' v2 (k + 1) from ⟨PZ.out, by rw [HT2.out]; exact O2.out, fun q hq => by have := HV2.out q hq; have := P20.out.lt; omega, by rw [HT2.out]; show t.next ≤ _; have := SS.out.1; omega, fun z hz => by rw [HT2.out] at hz; have := SS.out.2.1 z (List.mem_filter.1 hz).1; omega, B20.out.trans (BZ.out.mono B20.out.size), SS.out.2.2⟩)
                      have ND := nE_dead (t := t') (tx := z1) (lsn := lsn) (k := 7) (prev := z2) (by rw [HT2.out]; exact getT_del _ _) (by rw [HLQ.out]; exact HLS.out) (by omega) (by omega)
                      have K6 := noteX b m t' t' lsn 7 z1 z2 130 _ PZ.out XI.out ND.1 ND.2
                      have NX := hide (show t'.next = t.next by rw [HT2.out])
                      clear ND ht' P20 X20 B20 RW20 D20 O2 HR1 HR2 kc2 PZ
                      go_wp2_with (refine wpList_load51 XZ.out rfl rfl ?_)
                      refine K6.mono ?_
                      rintro e x3 ⟨rfl, p, kp⟩
                      have T3 := hide (TZ.out.noted p kp)
                      clear p kp K6 TZ XZ
                      go_wp2_with (go_at_call 7; refine (num_eq _ _).mono ?_; rintro e wz ⟨rfl, rfl⟩)
                      go_meet
                      exact ⟨t', by rw [NX.out], T3.out⟩
                  · as_aux_lemma =>
                      subst e5
                      go_upto_region 38 with (go_at_call 7; refine (num_eq _ _).mono ?_; rintro e wz ⟨rfl, rfl⟩)
                      refine named (P := Code.wp _ _ _ _) ?_
                      intro w20 hw20
                      obtain ⟨rw20, k20⟩ := wrote4 RW.out hr ⟨z1, lsn, true, z4⟩ hne2 hw20
                      have GL := hide (World.ownsRow.lt RW.out g rfl).1
                      clear hw20 c0 c1 c2 c3 f1 f2 f3 p0 p1 p2 p3 fr0 fr1 fr2 fr3
                      have HT := hide (show t.noteT lsn 5 z1 z2 = ⟨t.L.set r ⟨z1, lsn, true, z4⟩, t.next⟩ by rw [N5.out.2 (by omega), show gone 5 lsn (⟨z1, z2, z3, z4⟩ : Lv) = ⟨z1, lsn, true, z4⟩ from by simp [gone], set_setT OKT.out.rise hr (v := ⟨z1, lsn, true, z4⟩) (by rw [← XR.out])])
                      have FIN := hide (LSt.setR (t := t) (k := k) (y := ⟨z1, lsn, true, z4⟩) P16.out HT.out rw20 k20 B16.out SS.out (by have := ORD.out; have := GN.out; omega) (by have := ORD.out; have := GN.out; have := GL.out; omega) HLQ.out)
                      obtain ⟨kc2, -⟩ := (X16.out.keep k20 (by have := ORD.out; have := GN.out; omega)).cells.get 1 _ rfl
                      clear rw20 k20 kc RW P16 C16 X16
                      go_wp2_with fail
                      go_meet
                      exact ⟨_, by rw [HT.out], FIN.out⟩
                  · as_aux_lemma =>
                      subst e5
                      go_upto_region 38 with (go_at_call 7; refine (num_eq _ _).mono ?_; rintro e wz ⟨rfl, rfl⟩)
                      refine named (P := Code.wp _ _ _ _) ?_
                      intro w20 hw20
                      obtain ⟨rw20, k20⟩ := wrote4 RW.out hr ⟨z1, lsn, z3, true⟩ hne2 hw20
                      have GL := hide (World.ownsRow.lt RW.out g rfl).1
                      clear hw20 c0 c1 c2 c3 f1 f2 f3 p0 p1 p2 p3 fr0 fr1 fr2 fr3
                      have HT := hide (show t.noteT lsn 6 z1 z2 = ⟨t.L.set r ⟨z1, lsn, z3, true⟩, t.next⟩ by rw [N5.out.2 (by omega), show gone 6 lsn (⟨z1, z2, z3, z4⟩ : Lv) = ⟨z1, lsn, z3, true⟩ from by simp [gone], set_setT OKT.out.rise hr (v := ⟨z1, lsn, z3, true⟩) (by rw [← XR.out])])
                      have FIN := hide (LSt.setR (t := t) (k := k) (y := ⟨z1, lsn, z3, true⟩) P16.out HT.out rw20 k20 B16.out SS.out (by have := ORD.out; have := GN.out; omega) (by have := ORD.out; have := GN.out; have := GL.out; omega) HLQ.out)
                      obtain ⟨kc2, -⟩ := (X16.out.keep k20 (by have := ORD.out; have := GN.out; omega)).cells.get 1 _ rfl
                      clear rw20 k20 kc RW P16 C16 X16
                      go_wp2_with fail
                      go_meet
                      exact ⟨_, by rw [HT.out], FIN.out⟩
                  · as_aux_lemma =>
                      have n5 : (kk == 5) = false := by simpa using e5
                      have n6 : (kk == 6) = false := by simpa using e6
                      have n7 : (kk == 7) = false := by simpa using e7
                      go_upto_region 38 with (go_at_call 7; refine (num_eq _ _).mono ?_; rintro e wz ⟨rfl, rfl⟩)
                      refine named (P := Code.wp _ _ _ _) ?_
                      intro w20 hw20
                      obtain ⟨rw20, k20⟩ := wrote4 RW.out hr ⟨z1, lsn, z3, z4⟩ hne2 hw20
                      have GL := hide (World.ownsRow.lt RW.out g rfl).1
                      clear hw20 c0 c1 c2 c3 f1 f2 f3 p0 p1 p2 p3 fr0 fr1 fr2 fr3
                      have HT := hide (show t.noteT lsn kk z1 z2 = ⟨t.L.set r ⟨z1, lsn, z3, z4⟩, t.next⟩ by rw [N5.out.2 (by omega), show gone kk lsn (⟨z1, z2, z3, z4⟩ : Lv) = ⟨z1, lsn, z3, z4⟩ from by simp [gone, e5, e6], set_setT OKT.out.rise hr (v := ⟨z1, lsn, z3, z4⟩) (by rw [← XR.out])])
                      have FIN := hide (LSt.setR (t := t) (k := k) (y := ⟨z1, lsn, z3, z4⟩) P16.out HT.out rw20 k20 B16.out SS.out (by have := ORD.out; have := GN.out; omega) (by have := ORD.out; have := GN.out; have := GL.out; omega) HLQ.out)
                      obtain ⟨kc2, -⟩ := (X16.out.keep k20 (by have := ORD.out; have := GN.out; omega)).cells.get 1 _ rfl
                      clear rw20 k20 kc RW P16 C16 X16
                      go_wp2_with fail
                      go_meet
                      exact ⟨_, by rw [HT.out], FIN.out⟩
            · -- one more begins
              obtain ⟨z0, -⟩ := M3.out.get 0 _ rfl
              have KR : ∀ w, Calls Try.prog 10 #[.int .i64 mk, .int .i64 2] w _ := fun w => rest_any mk 2 (by omega) (by omega) w
              have BE := hide (bE (t := t) HLS.out (by have := S3.out.nx; omega))
              have NB := hide (nB (t := t) HLS.out)
              rw [← HLQ.out] at BE NB
              have KB := Begin_any b m t lsn w3 S3.out.pt
              have hnx := S3.out.pt.ok.n2
              have hnx1 := S3.out.pt.ok.n1
              obtain ⟨nxt, hnxt⟩ : ∃ nxt, nxt = t.next := ⟨_, rfl⟩
              have K1 := note_any b m t (litR lsn 1 t.next 0) lsn 1 t.next 0 w3 S3.out.pt (litR_rec _ _ _ _ (by unfold I64; omega))
              unfold NotePost at K1
              have K2 := fun (t' : TbM) w' (hn : t.next + 3 ≠ t'.next) (h : PT w' b m t') => noteB3 b m t' lsn (t.next + 3) w' h (by rw [HLQ.out]; exact HLS.out) hn (by unfold I64; omega)
              have hw3 : wrap64 (t.next + 3) = t.next + 3 := wrapI (by unfold I64; omega)
              have hw4 : wrap64 (t.next + 1) = t.next + 1 := wrapI (by unfold I64; omega)
              by_cases hf : 32 ≤ t.L.length
              · as_aux_lemma =>
                  obtain ⟨f1, f2, f3, f4⟩ := BE.out.1 hf
                  have g1 := NB.out.1
                  rw [f1] at g1
                  have g2 := NB.out.2.1 f1
                  simp only [if_true] at g1
                  rw [f2, f3, f4] at KB
                  rw [g1, g2] at K1
                  have df : decide ((32 : Int) ≤ (t.L.length : Int)) = true := by simp; omega
                  clear f1 f2 f3 f4 g1 g2 BE NB hw4 hnxt nxt
                  go_wp2_with fail
                  refine (KR _).mono ?_
                  rintro e wz ⟨r, hr, rfl, rfl⟩
                  rcases (show r = 0 ∨ r = 1 by omega) with rfl | rfl
                  · go_wp2_with (first | (go_at_call 7; refine (num_eq _ _).mono ?_; rintro e wz ⟨rfl, rfl⟩) | (go_at_call 11; refine KB.mono ?_; rintro e w4 ⟨rfl, p4, k4⟩; have S4 := hide (S3.out.noted p4 k4); clear p4 k4))
                    go_meet
                    exact ⟨t, rfl, S4.out.nextK⟩
                  · go_wp2_with (first | (go_at_call 7; refine (num_eq _ _).mono ?_; rintro e wz ⟨rfl, rfl⟩) | (go_at_call 12; first | (refine K1.mono ?_; rintro e w4 ⟨rfl, p4, k4⟩; have S4 := hide (S3.out.noted p4 k4); clear p4 k4 K1) | (refine (K2 t _ (by omega) S4.out.pt).mono ?_; rintro e w5 ⟨rfl, p5, k5⟩; have S5 := hide (S4.out.noted p5 k5); clear p5 k5)))
                    go_meet
                    exact ⟨t, rfl, S5.out.nextK⟩
              · as_aux_lemma =>
                  have hf2 : t.L.length < 32 := by omega
                  obtain ⟨f1, f2, f3, f4⟩ := BE.out.2 hf2
                  have g1 := NB.out.1
                  rw [f1] at g1
                  have g2 := NB.out.2.2 f1
                  simp only [Bool.false_eq_true, if_false] at g1
                  rw [f2, f3, f4] at KB
                  rw [g1, g2] at K1
                  have df : decide ((32 : Int) ≤ (t.L.length : Int)) = false := by simp; omega
                  clear f1 f2 f3 f4 g1 g2 BE NB
                  go_wp2_with fail
                  refine (KR _).mono ?_
                  rintro e wz ⟨r, hr, rfl, rfl⟩
                  rcases (show r = 0 ∨ r = 1 by omega) with rfl | rfl
                  · go_wp2_with (first | (go_at_call 7; refine (num_eq _ _).mono ?_; rintro e wz ⟨rfl, rfl⟩) | (go_at_call 11; refine KB.mono ?_; rintro e w4 ⟨rfl, p4, k4⟩; have P4 := hide p4; have K4 := hide k4; clear p4 k4) | (at_builtin; refine wpList_appR Try.underlying56 info58 rfl (by decide) (by decide) rfl _ _ rfl w.heap.size _ _ _ rfl (GRow.below (S3.out.rowK K4.out) (alloc_below _ (.cells #[.int .i64 t.next, .int .i64 lsn, .bool false, .bool false] 58))) (some ⟨w4.heap.size, 0, none⟩) 1 1 (lvC ⟨t.next, lsn, false, false⟩) rfl rfl (lies_new4 w4 ⟨t.next, lsn, false, false⟩ 58) (lvC_one _) (fun q => by cases q) (by omega) (by have := (S3.out.keepB K4.out).size; simp; omega) ?_; intro v' w5 hown' hg5 hn5; go_frame))
                    go_meet
                    exact ⟨t.begun lsn, rfl, by rw [HLQ.out] at P4 hown' ⊢; exact S3.out.pushed P4.out K4.out (alloc_below w4 _) hown' hg5 hn5⟩
                  · go_wp2_with (first | (go_at_call 7; refine (num_eq _ _).mono ?_; rintro e wz ⟨rfl, rfl⟩) | (go_at_call 12; first | (refine K1.mono ?_; rintro e x4 ⟨rfl, p4, k4⟩; have P4a := hide p4; have K4a := hide k4; clear p4 k4 K1) | (refine (K2 (t.begun lsn) _ (by show t.next + 3 ≠ t.next + 1; omega) P4a.out).mono ?_; rintro e w4 ⟨rfl, p4, k4⟩; have P4 := hide p4; have K4 := hide (K4a.out.trans k4 (fun _ _ q => q)); clear p4 k4 K4a P4a)) | (at_builtin; refine wpList_appR Try.underlying56 info58 rfl (by decide) (by decide) rfl _ _ rfl w.heap.size _ _ _ rfl (GRow.below (S3.out.rowK K4.out) (alloc_below _ (.cells #[.int .i64 t.next, .int .i64 lsn, .bool false, .bool false] 58))) (some ⟨w4.heap.size, 0, none⟩) 1 1 (lvC ⟨t.next, lsn, false, false⟩) rfl rfl (lies_new4 w4 ⟨t.next, lsn, false, false⟩ 58) (lvC_one _) (fun q => by cases q) (by omega) (by have := (S3.out.keepB K4.out).size; simp; omega) ?_; intro v' w5 hown' hg5 hn5; go_frame))
                    go_meet
                    exact ⟨t.begun lsn, rfl, by rw [HLQ.out] at P4 hown' ⊢; exact S3.out.pushed P4.out K4.out (alloc_below w4 _) hown' hg5 hn5⟩
          case rest =>
            obtain ⟨t', rfl, hS'⟩ := hcut
            obtain ⟨a', c', hv', hl', -⟩ := GRow.lies hS'.row
            subst hv'
            have KT := told_any b m t' a' c' _ hS'.pt hl'
            have ST' := hide hS'
            clear hS' hl' S3 M3 MB HQ
            go_wp2_with fail
            refine KT.mono ?_
            rintro e w4 ⟨rfl, hh⟩
            have S4 := hide (ST'.out.below hh)
            clear hh KT ST'
            go_wp2_with fail
            go_roundw
            case rel => first | exact ⟨k + 1, t', rfl, by go_num, by omega, by omega, S4.out⟩ | ((repeat apply Exists.intro); exact ⟨⟨k + 1, t', rfl, by go_num, by omega, by omega, S4.out⟩, rfl⟩)
            case measure => simp [intOf]; omega
      · clear hk1
        go_wp2_with fail
        go_ret
        exact ⟨rfl, ST.out.be⟩
    · go_wp2_with fail
      go_ret
      exact ⟨rfl, ST.out.be⟩
end Go.Proofs.Ytokcocmenndlmaa
