import Derived.Test.YtokcocmenndlmaaTx32
import Derived.Test.YtokcocmenndlmaaTx33
namespace Go.Proofs.Ytokcocmenndlmaa
open Go.RowKit Go.QK Go.Maps Go.QM Go.QT
set_option maxRecDepth 100000
section
variable {ops : Array Oper} {rest : List Oper} {a : Act} {w : World} {Q : Exit → Act → World → Prop} {d : Option Tmp} {ty : TypeId} {ps : String} {af : Array Edge} {x y : Operand} {b : Nat} {cs cs' : Array Value}
theorem wpList_stR (hb : RBox w b 51 cs) (hs : cs.size = 17) (hs' : cs'.size = 17) (h1 : cs'.toList.all (·.oneCell') = true) (hx : a.eval x = .pointer (some ⟨b, 0, none⟩)) (hy : a.eval y = .agg cs')
    (h : ∀ w', RBox w' b 51 cs' → Keep (fun k => k = b) w w' → wpList Try.prog ops Q rest (a.put d undef) w') :
    wpList Try.prog ops Q ({ dst := d, op := .store 51 x y, type := ty, pos := ps, after := af, guard := none } :: rest) a w := by
  have hrun := run_storeVar_row (P := Try.prog) w b 51 51 cs cs' hb (size51' hs') (by rw [hs, hs']) (by rw [← Array.all_toList]; exact h1)
  refine wpList_plain rfl fun K hK => ?_
  unfold Oper.wp execOp
  simp only [hx, hy, Instr.storeAt, Instr.sureAddr, Sem.run_bind, Sem.run_pure, Result.andThen_ok, hrun]
  exact hK _ _ (h _ (RBox.setRow hb cs') (keep_setRow _ _ _))
end
theorem run_ldR (w : World) (b : Nat) (cs : Array Value) (hb : RBox w b 51 cs) (hs : cs.size = 17) : (loadVar 51 ⟨b, 0, none⟩).run Try.prog w = .ok (.agg cs) w := by
  have hl : (loadCells ⟨b, 0, none⟩ cs.toList.length).run Try.prog w = .ok cs.toList.toArray w :=
    run_loadCells_list (P := Try.prog) w ⟨b, 0, none⟩ cs.toList (fun j v hv => by
      rw [addr_add, Nat.zero_add]
      exact (hb.cells.get j v hv).1)
  have hi := size51' hs
  cases hq : Try.prog.info? 51 with
  | none => simp [hq] at hi
  | some i =>
    have hs : i.size = cs.size := by simpa [hq] using hi
    have hagg : (isAgg 51).run Try.prog w = .ok true w := by
      unfold isAgg
      rw [Sem.run_bind, run_underlying Try.underlying51 w]
      rfl
    simp only [Array.length_toList, Array.toArray_toList] at hl
    simp [loadVar, Sem.run_bind, hagg, sizeOf, typeInfo, hq, hs, hl]
theorem exec_ldR {o : Oper} {ev : Operand → Value} {x : Operand} {b : Nat} {cs : Array Value} {w : World} (ho : o.op = .load 51 x) (hx : ev x = .pointer (some ⟨b, 0, none⟩)) (hb : RBox w b 51 cs) (hs : cs.size = 17) : (execOp ev o).run Try.prog w = .ok (.value (.agg cs)) w := by
  have h := run_ldR w b cs hb hs
  unfold execOp
  simp only [ho, hx, Instr.loadAt, Instr.sureAddr, Sem.run_bind, Sem.run_pure, Result.andThen_ok, h]
set_option maxHeartbeats 16000000 in
theorem notes_any (lab : Nat → Nat) (B : Nat) (T : Tab) (i : Nat) (lsn k tx prev z4 z5 z6 z7 z8 z9 z10 z11 z12 z13 : Int) (la da : Option Addr) (lc dc : Nat) (nx : Int) (L : List Lv) (D : List (Int × Int)) (w : World) (h : Tb lab w B T) (hi : i < 2) (he : ∀ j, j < 2 → T.rp j = T.rq j) (hx : I64 tx) (hL : ∀ w', Below B w w' → Lies w' la (rowsC lvC L)) (hD : ∀ w', Below B w w' → Lies w' da (rowsC dC D)) (hnl : la = none → lc = 0 ∧ L.length = 0) (hnd : da = none → dc = 0 ∧ D.length = 0) :
    Calls Try.prog 38 #[ptr T.t, .int .i64 (i : Int), .agg #[.int .i64 lsn, .int .i64 k, .int .i64 tx, .int .i64 prev, .int .i64 z4, .int .i64 z5, .int .i64 z6, .int .i64 z7, .int .i64 z8, .int .i64 z9, .int .i64 z10, .int .i64 z11, .int .i64 z12, .int .i64 z13, .slice la L.length lc, .slice da D.length dc, .int .i64 nx]] w (TPost 0 w B T) := by
  obtain ⟨lb, hlb⟩ : ∃ l, l = ext lab w.heap.size 9 := ⟨_, rfl⟩
  have NEW := hide (show ∀ x, w.heap.size ≤ x → lb x = 9 from fun x hx => by rw [hlb]; exact ext_new hx)
  have HT := hide (h.relab (lab' := lb) (fun x hx => by rw [hlb]; exact ext_old hx))
  have HBS := hide (show B ≤ w.heap.size by have := h.low.1; have := h.box.1; omega)
  have HQ := hide he
  have GG := hide (And.intro hL (And.intro hD (And.intro hnl hnd)))
  have HI := hide hx
  have hi2 : (i : Int) < 2 := by omega
  clear h he hL hD hnl hnd hx hlb
  go_enter Try.func38, Try.ntmps38
  go_upto_region 1 with fail
  refine named (P := Code.wp _ _ _ _) ?_
  intro w1 hw1
  obtain ⟨pb, hpb⟩ : ∃ b, b = w.heap.size := ⟨_, rfl⟩
  have XP0 := hide (show RBox w1 pb 51 #[.int .i64 lsn, .int .i64 k, .int .i64 tx, .int .i64 prev, .int .i64 z4, .int .i64 z5, .int .i64 z6, .int .i64 z7, .int .i64 z8, .int .i64 z9, .int .i64 z10, .int .i64 z11, .int .i64 z12, .int .i64 z13, .slice la L.length lc, .slice da D.length dc, .int .i64 nx] by rw [hw1, hpb]; exact RBox.new _ _ _)
  have B0 := hide (show Below w.heap.size w w1 by rw [hw1]; exact alloc_below _ _)
  have HPB := hide (show w.heap.size ≤ pb by omega)
  rw [← hpb]
  clear hw1 hpb
  obtain ⟨y14, yf14⟩ := XP0.out.cells.get 14 _ rfl
  obtain ⟨y15, yf15⟩ := XP0.out.cells.get 15 _ rfl
  obtain ⟨y16, yf16⟩ := XP0.out.cells.get 16 _ rfl
  go_cut [20] (fun v w' => ∃ q : Bool, v = .bool q ∧ (q = false → L.length ≤ 100 ∧ D.length ≤ 100) ∧ w1 = w')
  case first =>
    by_cases hN : 100 < L.length
    · have d1 : decide (100 < (L.length : Int)) = true := by simp; omega
      go_wp2_with fail
      go_meet
      exact ⟨true, rfl, (fun q => by cases q), rfl⟩
    · have d1 : decide (100 < (L.length : Int)) = false := by simp; omega
      by_cases hM : 100 < D.length
      · have d2 : decide (100 < (D.length : Int)) = true := by simp; omega
        go_wp2_with fail
        go_meet
        exact ⟨true, rfl, (fun q => by cases q), rfl⟩
      · have d2 : decide (100 < (D.length : Int)) = false := by simp; omega
        go_wp2_with fail
        go_meet
        exact ⟨false, rfl, fun _ => ⟨by omega, by omega⟩, rfl⟩
  case rest =>
    obtain ⟨q, rfl, hq, rfl⟩ := hcut
    have HQQ := hide hq
    clear hq
    go_upto_if 20 with fail
    go_cut [22] (fun _ w' => ∃ la1 lc1 da1 dc1 nx1, ∃ L1 : List Lv, ∃ D1 : List (Int × Int), RBox w' pb 51 #[.int .i64 lsn, .int .i64 k, .int .i64 tx, .int .i64 prev, .int .i64 z4, .int .i64 z5, .int .i64 z6, .int .i64 z7, .int .i64 z8, .int .i64 z9, .int .i64 z10, .int .i64 z11, .int .i64 z12, .int .i64 z13, .slice la1 (List.length L1) lc1, .slice da1 (List.length D1) dc1, .int .i64 nx1] ∧ (L1.length ≤ 100 ∧ D1.length ≤ 100) ∧ (∀ w', Below B w w' → Lies w' la1 (rowsC lvC L1)) ∧ (∀ w', Below B w w' → Lies w' da1 (rowsC dC D1)) ∧ (la1 = none → lc1 = 0 ∧ L1.length = 0) ∧ (da1 = none → dc1 = 0 ∧ D1.length = 0) ∧ Below w.heap.size w w')
    case first =>
      cases q
      · go_wp2_with fail
        go_meet
        exact ⟨la, lc, da, dc, nx, L, D, XP0.out, HQQ.out (by first | rfl | trivial), GG.out.1, GG.out.2.1, GG.out.2.2.1, GG.out.2.2.2, B0.out⟩
      · have FIN := hide (((XP0.out.setCell 14 (.slice none 0 0)).setCell 15 (.slice none 0 0)).setCell 16 (.int .i64 0))
        have KF := hide (B0.out.trans (((((Keep.refl (fun z => z = pb) w1).setCell (g := pb) (j := 14) (fun _ => rfl) (.slice none 0 0)).setCell (g := pb) (j := 15) (fun _ => rfl) (.slice none 0 0)).setCell (g := pb) (j := 16) (fun _ => rfl) (.int .i64 0)).below B0.out.size (fun z hz q => by have e9 : z = pb := q; have := HPB.out; omega)))
        go_wp2_with fail
        go_meet
        exact ⟨none, 0, none, 0, 0, [], [], by simpa using FIN.out, by simp, fun _ _ => .inl rfl, fun _ _ => .inl rfl, fun _ => ⟨rfl, rfl⟩, fun _ => ⟨rfl, rfl⟩, KF.out⟩
    case rest =>
      obtain ⟨la1, lc1, da1, dc1, nx1, L1, D1, xp, ⟨l1, l2⟩, g1, g2, g3, g4, bw⟩ := hcut
      obtain ⟨wx, hwx⟩ : ∃ x, x = wc := ⟨_, rfl⟩
      rw [← hwx] at xp bw ⊢
      have XPX := hide xp
      have BX := hide bw
      have GX := hide (And.intro g1 (And.intro g2 (And.intro g3 g4)))
      clear hwx xp bw g1 g2 g3 g4 XP0 B0 y14 y15 y16 yf14 yf15 yf16 GG HQQ
      go_upto_region 4 with (first | refine wpList_load51 XPX.out rfl rfl ?_ | (refine wpList_stR (RBox.new _ #[.int .i64 0, .int .i64 0, .int .i64 0, .int .i64 0, .int .i64 0, .int .i64 0, .int .i64 0, .int .i64 0, .int .i64 0, .int .i64 0, .int .i64 0, .int .i64 0, .int .i64 0, .int .i64 0, .slice none 0 0, .slice none 0 0, .int .i64 0] 51) rfl rfl rfl rfl rfl ?_; intro w2 hx2 hk2))
      obtain ⟨ob, hob⟩ : ∃ b, b = wx.heap.size := ⟨_, rfl⟩
      have hh2 : Below wx.heap.size wx w2 := newBox hk2
      have XO2 := hide (show RBox w2 ob 51 #[.int .i64 lsn, .int .i64 k, .int .i64 tx, .int .i64 prev, .int .i64 z4, .int .i64 z5, .int .i64 z6, .int .i64 z7, .int .i64 z8, .int .i64 z9, .int .i64 z10, .int .i64 z11, .int .i64 z12, .int .i64 z13, .slice la1 (List.length L1) lc1, .slice da1 (List.length D1) dc1, .int .i64 nx1] by rw [hob]; exact hx2)
      have XP2 := hide (XPX.out.below hh2)
      have B2 := hide (BX.out.trans (hh2.mono BX.out.size))
      have POB := hide (show pb < ob ∧ w.heap.size ≤ ob by rw [hob]; exact ⟨XPX.out.lt, BX.out.size⟩)
      rw [← hob]
      clear hob hx2 hk2 hh2 XPX BX
      obtain ⟨y14, -⟩ := XP2.out.cells.get 14 _ rfl
      obtain ⟨y15, -⟩ := XP2.out.cells.get 15 _ rfl
      obtain ⟨y16, -⟩ := XP2.out.cells.get 16 _ rfl
      go_wp2_with fail
      refine (lent_any la1 da1 lc1 dc1 L1.length D1.length nx1 (rowsC lvC L1) (rowsC dC D1) w2 (GX.out.1 _ (B2.out.mono HBS.out)) (GX.out.2.1 _ (B2.out.mono HBS.out)) ⟨by rw [rowsC_len lvC 4 (fun _ => rfl)]; omega, GX.out.2.2.1, rows_one _, by omega⟩ ⟨by rw [rowsC_len dC 2 (fun _ => rfl)]; omega, GX.out.2.2.2, rows2_one _, by omega⟩).mono ?_
      unfold LentPost
      rintro e w3 ⟨gL, cL, gD, cD, rfl, oL, oD, hne, hh⟩
      have GLT := hide (And.intro (World.ownsRow.lt oL gL rfl) (World.ownsRow.lt oD gD rfl))
      have B3 := hide (B2.out.trans (hh.mono B2.out.size))
      have XP3 := hide (XP2.out.below hh)
      have XO3 := hide (XO2.out.below hh)
      have S2 := hide XO2.out.lt
      have OL3 := hide oL
      have OD3 := hide oD
      clear oL oD hh hne y14 y15 y16 XP2 XO2
      obtain ⟨y14, yf14⟩ := XO3.out.cells.get 14 _ rfl
      obtain ⟨y15, yf15⟩ := XO3.out.cells.get 15 _ rfl
      obtain ⟨y16, yf16⟩ := XO3.out.cells.get 16 _ rfl
      go_upto_region 5 with fail
      refine named (P := Code.wp _ _ _ _) ?_
      intro w4 hw4
      have kO : Keep (fun z => z = ob) w3 w4 := by rw [hw4]; exact (((Keep.refl (fun z => z = ob) w3).setCell (g := ob) (j := 14) (fun _ => rfl) _).setCell (g := ob) (j := 15) (fun _ => rfl) _).setCell (g := ob) (j := 16) (fun _ => rfl) _
      have XO4 := hide (show RBox w4 ob 51 #[.int .i64 lsn, .int .i64 k, .int .i64 tx, .int .i64 prev, .int .i64 z4, .int .i64 z5, .int .i64 z6, .int .i64 z7, .int .i64 z8, .int .i64 z9, .int .i64 z10, .int .i64 z11, .int .i64 z12, .int .i64 z13, .slice (some ⟨gL, 0, none⟩) L1.length cL, .slice (some ⟨gD, 0, none⟩) D1.length cD, .int .i64 nx1] by
        have := ((XO3.out.setCell 14 (.slice (some ⟨gL, 0, none⟩) L1.length cL)).setCell 15 (.slice (some ⟨gD, 0, none⟩) D1.length cD)).setCell 16 (.int .i64 nx1)
        rw [← hw4] at this
        simpa using this)
      have XP4 := hide (XP3.out.keep kO (fun q => by have e9 : pb = ob := q; have := POB.out; omega))
      have B4 := hide (B3.out.trans (kO.below B3.out.size (fun z hz q => by have e9 : z = ob := q; have := POB.out; omega)))
      have OL4 := hide (GRow.keep OL3.out kO (fun g hg q => by cases hg; have e9 : gL = ob := q; have := GLT.out; have := S2.out; omega))
      have OD4 := hide (GRow.keep OD3.out kO (fun g hg q => by cases hg; have e9 : gD = ob := q; have := GLT.out; have := S2.out; omega))
      have S3 := hide (show gL < w4.heap.size ∧ gD < w4.heap.size ∧ w.heap.size ≤ gL ∧ w.heap.size ≤ gD from ⟨Nat.lt_of_lt_of_le GLT.out.1.2 kO.size, Nat.lt_of_lt_of_le GLT.out.2.2 kO.size, Nat.le_trans B2.out.size GLT.out.1.1, Nat.le_trans B2.out.size GLT.out.2.1⟩)
      have HT4 := hide (HT.out.below B4.out)
      clear hw4 kO XO3 XP3 B3 OL3 OD3 y14 y15 y16 yf14 yf15 yf16 B2 S2
      have LBS := hide (show lb pb = 9 ∧ lb ob = 9 ∧ lb gL = 9 ∧ lb gD = 9 from ⟨NEW.out _ HPB.out, NEW.out _ POB.out.2, NEW.out _ S3.out.2.2.1, NEW.out _ S3.out.2.2.2⟩)
      have L2 := hide (HT.out.l2 i hi)
      obtain ⟨rv, hrv⟩ : ∃ x : Array Value, x = #[.int .i64 lsn, .int .i64 k, .int .i64 tx, .int .i64 prev, .int .i64 z4, .int .i64 z5, .int .i64 z6, .int .i64 z7, .int .i64 z8, .int .i64 z9, .int .i64 z10, .int .i64 z11, .int .i64 z12, .int .i64 z13, .slice (some ⟨gL, 0, none⟩) L1.length cL, .slice (some ⟨gD, 0, none⟩) D1.length cD, .int .i64 nx1] := ⟨_, rfl⟩
      have RV := hide (show RecA rv lsn k tx prev by rw [hrv]; exact ⟨rfl, rfl, rfl, rfl, rfl, HI.out⟩)
      have XOR := hide (show RBox w4 ob 51 rv by rw [hrv]; exact XO4.out)
      have KN := note_any (T.b i) (T.m i) (T.rp i) rv lsn k tx prev w4.drew ((HT4.out.below (Below.refl _ _).drew).pr i hi) RV.out
      unfold NotePost at KN
      clear hrv
      have CB4 := hide HT4.out.box
      refine wp_region_held_drew (S := fun wq => Keep (fun z => z = T.b i ∨ z = T.m i) w4 wq) (by kernel_rfl) (Keep.refl _ _).drew (fun hS => ?_)
      refine take_at 0 (some 28) (v := ?_) rfl rfl (by kernel_rfl) (by kernel_rfl) (by kernel_rfl) (fun _ _ _ h => h) ⟨by rfl, ?_⟩ hS ?_
      rotate_left
      · intro wq hSw; go_simp; try rfl
      simp only [Act.put, List.setIfInBounds_toArray, List.set_cons_zero, List.set_cons_succ]
      refine take_at 1 (some 29) (v := ?_) rfl rfl (by kernel_rfl) (by kernel_rfl) (by kernel_rfl) (fun _ _ _ h => h) ⟨by rfl, ?_⟩ hS ?_
      rotate_left
      · intro wq hSw; go_simp; try rfl
      simp only [Act.put, List.setIfInBounds_toArray, List.set_cons_zero, List.set_cons_succ]
      refine take_at 2 (some 30) (v := ?_) rfl rfl (by kernel_rfl) (by kernel_rfl) (by kernel_rfl) (fun _ _ _ h => h) ⟨by rfl, ?_⟩ hS ?_
      rotate_left
      · intro wq hSw; go_simp; try rfl
      simp only [Act.put, List.setIfInBounds_toArray, List.set_cons_zero, List.set_cons_succ]
      refine take_at 3 (some 31) (v := ?_) rfl rfl (by kernel_rfl) (by kernel_rfl) (by kernel_rfl) (fun _ _ _ h => h) ⟨by rfl, ?_⟩ hS ?_
      rotate_left
      · intro wq hSw; go_simp; try rfl
      simp only [Act.put, List.setIfInBounds_toArray, List.set_cons_zero, List.set_cons_succ]
      refine take_at 4 (some 32) (v := ?_) rfl rfl (by kernel_rfl) (by kernel_rfl) (by kernel_rfl) (fun _ _ _ h => h) ⟨by rfl, ?_⟩ hS ?_
      rotate_left
      · intro wq hSw; go_simp; try rfl
      simp only [Act.put, List.setIfInBounds_toArray, List.set_cons_zero, List.set_cons_succ]
      refine take_at 5 (some 33) (v := ?_) rfl rfl (by kernel_rfl) (by kernel_rfl) (by kernel_rfl) (fun _ _ _ h => h) ⟨by rfl, ?_⟩ hS ?_
      rotate_left
      · intro wq hSw; have q : wq.cell? ⟨T.t, i, none⟩ = some (ptr (T.b i)) := (hSw.cell (p := ⟨T.t, i, none⟩) CB4.out.1 (fun q => by rcases q with q | q; (have e9 : T.t = T.b i := q; have l2 := L2.out; rw [← e9] at l2; have := HT.out.l1; omega); (have e9 : T.t = T.m i := q; have l2 := L2.out; rw [← e9] at l2; have := HT.out.l1; omega))).trans (HT4.out.cP hi).1; go_simp; try rfl
      simp only [Act.put, List.setIfInBounds_toArray, List.set_cons_zero, List.set_cons_succ]
      refine take_at 6 (some 34) (v := .agg rv) rfl rfl (by kernel_rfl) (by kernel_rfl) (by kernel_rfl) (fun _ _ _ h => h) ⟨by rfl, fun wq hSw => exec_ldR rfl rfl (XOR.out.keep hSw (fun q => by rcases q with q | q; (have e9 : ob = T.b i := q; have l2 := L2.out; rw [← e9] at l2; have := LBS.out; omega); (have e9 : ob = T.m i := q; have l2 := L2.out; rw [← e9] at l2; have := LBS.out; omega))) RV.out.sz⟩ hS ?_
      simp only [Act.put, List.setIfInBounds_toArray, List.set_cons_zero, List.set_cons_succ]
      refine wpAnyH_ready (rs := [7]) (by kernel_rfl) (by simp) ?_
      refine AllReadyH.cons rfl (fun K hK => ?_) AllReadyH.nil
      go_simp
      go_wp2_with fail
      refine KN.mono ?_
      rintro e w5 ⟨rfl, pt, kp⟩
      have P5 := hide pt
      have K5 := hide (hS.trans kp (fun _ _ q => q))
      clear pt kp hS
      go_wp2_with fail
      refine hK.out _ _ K5.out (fun hS => ?_)
      clear hK K
      (try simp only [Act.put, List.setIfInBounds_toArray, List.set_cons_zero, List.set_cons_succ])
      refine take_at 8 (some 8) (v := ?_) rfl rfl (by kernel_rfl) (by kernel_rfl) (by kernel_rfl) (fun _ _ _ h => h) ⟨by rfl, ?_⟩ hS ?_
      rotate_left
      · intro wq hSw; go_simp; try rfl
      simp only [Act.put, List.setIfInBounds_toArray, List.set_cons_zero, List.set_cons_succ]
      clear hS
      refine wpAnyH_done (by kernel_rfl) ?_ _
      have XO5 := hide (XO4.out.keep K5.out (fun q => by rcases q with q | q; (have e9 : ob = T.b i := q; have l2 := L2.out; rw [← e9] at l2; have := LBS.out; omega); (have e9 : ob = T.m i := q; have l2 := L2.out; rw [← e9] at l2; have := LBS.out; omega)))
      have XP5 := hide (XP4.out.keep K5.out (fun q => by rcases q with q | q; (have e9 : pb = T.b i := q; have l2 := L2.out; rw [← e9] at l2; have := LBS.out; omega); (have e9 : pb = T.m i := q; have l2 := L2.out; rw [← e9] at l2; have := LBS.out; omega)))
      have OL5 := hide (GRow.keep OL4.out K5.out (fun g hg q => by cases hg; exact (fun q => by rcases q with q | q; (have e9 : gL = T.b i := q; have l2 := L2.out; rw [← e9] at l2; have := LBS.out; omega); (have e9 : gL = T.m i := q; have l2 := L2.out; rw [← e9] at l2; have := LBS.out; omega)) q))
      have OD5 := hide (GRow.keep OD4.out K5.out (fun g hg q => by cases hg; exact (fun q => by rcases q with q | q; (have e9 : gD = T.b i := q; have l2 := L2.out; rw [← e9] at l2; have := LBS.out; omega); (have e9 : gD = T.m i := q; have l2 := L2.out; rw [← e9] at l2; have := LBS.out; omega)) q))
      have TB5 := hide (HT4.out.took hi P5.out K5.out)
      have B5 := hide (show Below B w w5 from (B4.out.mono HBS.out).trans (K5.out.below (Nat.le_trans HBS.out B4.out.size) (fun z hz q => by have := HT.out.low.2 i hi; rcases q with q | q; (have e9 : z = T.b i := q; omega); (have e9 : z = T.m i := q; omega))))
      have Z4 := hide (Nat.le_trans B4.out.size K5.out.size)
      have SL := hide (show pb < w5.heap.size ∧ ob < w5.heap.size ∧ gL < w5.heap.size ∧ gD < w5.heap.size from ⟨XP5.out.lt, XO5.out.lt, Nat.lt_of_lt_of_le S3.out.1 K5.out.size, Nat.lt_of_lt_of_le S3.out.2.1 K5.out.size⟩)
      clear P5 K5 XO4 XP4 OL4 OD4 B4 XOR KN RV HT4 CB4 S3 GLT POB
      obtain ⟨E0, hE0⟩ : ∃ x, x = (T.rp i).noteE lsn k tx prev := ⟨_, rfl⟩
      obtain ⟨r1, hr1⟩ : ∃ x, x = (T.rp i).noteT lsn k tx prev := ⟨_, rfl⟩
      obtain ⟨rw, hrw⟩ : ∃ x : Array Value, x = #[.int .i64 lsn, .int .i64 k, .int .i64 tx, .int .i64 prev, .int .i64 z4, .int .i64 z5, .int .i64 z6, .int .i64 z7, .int .i64 z8, .int .i64 z9, .int .i64 z10, .int .i64 z11, .int .i64 z12, .int .i64 z13, .slice la1 (List.length L1) lc1, .slice da1 (List.length D1) dc1, .int .i64 nx1] := ⟨_, rfl⟩
      have RV := hide (show RecA rw lsn k tx prev by rw [hrw]; exact ⟨rfl, rfl, rfl, rfl, rfl, HI.out⟩)
      have XPR := hide (show RBox w5 pb 51 rw by rw [hrw]; exact XP5.out)
      have KR := rnote_any B (T.c i) (T.v i) (T.rq i) rw lsn k tx prev w5.drew ((TB5.out.below (Below.refl _ _).drew).rr i hi) RV.out
      unfold RNPost at KR
      rw [← HQ.out i hi, ← hE0, ← hr1] at KR
      rw [← hr1] at TB5
      rw [← hE0]
      have L4 := hide (TB5.out.l4 i hi)
      have CB5 := hide TB5.out.box
      clear hrw hE0 hr1
      go_upto_region 6 with fail
      refine wp_region_held_drew (S := fun wq => Keep (fun z => z = T.c i ∨ (T.v i).ownBlock = some z) w5 wq) (by kernel_rfl) (Keep.refl _ _).drew (fun hS => ?_)
      refine take_at 0 (some 36) (v := ?_) rfl rfl (by kernel_rfl) (by kernel_rfl) (by kernel_rfl) (fun _ _ _ h => h) ⟨by rfl, ?_⟩ hS ?_
      rotate_left
      · intro wq hSw; go_simp; try rfl
      simp only [Act.put, List.setIfInBounds_toArray, List.set_cons_zero, List.set_cons_succ]
      refine take_at 2 (some 38) (v := ?_) rfl rfl (by kernel_rfl) (by kernel_rfl) (by kernel_rfl) (fun _ _ _ h => h) ⟨by rfl, ?_⟩ hS ?_
      rotate_left
      · intro wq hSw; go_simp; try rfl
      simp only [Act.put, List.setIfInBounds_toArray, List.set_cons_zero, List.set_cons_succ]
      refine take_at 3 (some 39) (v := ?_) rfl rfl (by kernel_rfl) (by kernel_rfl) (by kernel_rfl) (fun _ _ _ h => h) ⟨by rfl, ?_⟩ hS ?_
      rotate_left
      · intro wq hSw; go_simp; try rfl
      simp only [Act.put, List.setIfInBounds_toArray, List.set_cons_zero, List.set_cons_succ]
      refine take_at 4 (some 40) (v := ?_) rfl rfl (by kernel_rfl) (by kernel_rfl) (by kernel_rfl) (fun _ _ _ h => h) ⟨by rfl, ?_⟩ hS ?_
      rotate_left
      · intro wq hSw; go_simp; try rfl
      simp only [Act.put, List.setIfInBounds_toArray, List.set_cons_zero, List.set_cons_succ]
      refine take_at 5 (some 41) (v := ?_) rfl rfl (by kernel_rfl) (by kernel_rfl) (by kernel_rfl) (fun _ _ _ h => h) ⟨by rfl, ?_⟩ hS ?_
      rotate_left
      · intro wq hSw; go_simp; try rfl
      simp only [Act.put, List.setIfInBounds_toArray, List.set_cons_zero, List.set_cons_succ]
      refine take_at 6 (some 42) (v := ?_) rfl rfl (by kernel_rfl) (by kernel_rfl) (by kernel_rfl) (fun _ _ _ h => h) ⟨by rfl, ?_⟩ hS ?_
      rotate_left
      · intro wq hSw; go_simp; try rfl
      simp only [Act.put, List.setIfInBounds_toArray, List.set_cons_zero, List.set_cons_succ]
      refine take_at 7 (some 43) (v := ?_) rfl rfl (by kernel_rfl) (by kernel_rfl) (by kernel_rfl) (fun _ _ _ h => h) ⟨by rfl, ?_⟩ hS ?_
      rotate_left
      · intro wq hSw; have q : wq.cell? ⟨T.t, 2 + i, none⟩ = some (ptr (T.c i)) := (hSw.cell (p := ⟨T.t, 2 + i, none⟩) CB5.out.1 (fun q => by rcases q with q | q; (have e9 : T.t = T.c i := q; have l4 := L4.out.1; rw [← e9] at l4; have := HT.out.l1; omega); (have l4 : lb T.t = 4 + i := L4.out.2 T.t q; have := HT.out.l1; omega))).trans (TB5.out.cR hi).1; go_simp; try rfl
      simp only [Act.put, List.setIfInBounds_toArray, List.set_cons_zero, List.set_cons_succ]
      refine take_at 8 (some 44) (v := .agg rw) rfl rfl (by kernel_rfl) (by kernel_rfl) (by kernel_rfl) (fun _ _ _ h => h) ⟨by rfl, fun wq hSw => exec_ldR rfl rfl (XPR.out.keep hSw (fun q => by rcases q with q | q; (have e9 : pb = T.c i := q; have l4 := L4.out.1; rw [← e9] at l4; have := LBS.out; omega); (have l4 : lb pb = 4 + i := L4.out.2 pb q; have := LBS.out; omega))) RV.out.sz⟩ hS ?_
      simp only [Act.put, List.setIfInBounds_toArray, List.set_cons_zero, List.set_cons_succ]
      refine wpAnyH_ready (rs := [1]) (by kernel_rfl) (by simp) ?_
      refine AllReadyH.cons rfl (fun K hK => ?_) AllReadyH.nil
      go_simp
      go_wp2_with fail
      refine (num_eq _ _).mono ?_
      rintro e wz ⟨rfl, rfl⟩
      go_wp2_with fail
      refine hK.out _ _ hS (fun hS => ?_)
      clear hK K
      (try simp only [Act.put, List.setIfInBounds_toArray, List.set_cons_zero, List.set_cons_succ])
      refine wpAnyH_ready (rs := [9]) (by kernel_rfl) (by simp) ?_
      refine AllReadyH.cons rfl (fun K hK => ?_) AllReadyH.nil
      go_simp
      go_wp2_with fail
      refine KR.mono ?_
      rintro e w6 ⟨rfl, rp⟩
      have RP6 := hide rp
      obtain ⟨v9, h91, h92, k9⟩ := rp
      have K6 := hide (hS.trans k9 (fun _ _ q => q))
      clear v9 h91 h92 k9 hS KR
      go_wp2_with fail
      refine hK.out _ _ K6.out (fun hS => ?_)
      clear hK K
      (try simp only [Act.put, List.setIfInBounds_toArray, List.set_cons_zero, List.set_cons_succ])
      refine take_at 10 (some 46) (v := ?_) rfl rfl (by kernel_rfl) (by kernel_rfl) (by kernel_rfl) (fun _ _ _ h => h) ⟨by rfl, ?_⟩ hS ?_
      rotate_left
      · intro wq hSw; go_simp; try rfl
      simp only [Act.put, List.setIfInBounds_toArray, List.set_cons_zero, List.set_cons_succ]
      refine take_at 11 (some 47) (v := ?_) rfl rfl (by kernel_rfl) (by kernel_rfl) (by kernel_rfl) (fun _ _ _ h => h) ⟨by rfl, ?_⟩ hS ?_
      rotate_left
      · intro wq hSw; go_simp; try rfl
      simp only [Act.put, List.setIfInBounds_toArray, List.set_cons_zero, List.set_cons_succ]
      refine take_at 12 (some 48) (v := ?_) rfl rfl (by kernel_rfl) (by kernel_rfl) (by kernel_rfl) (fun _ _ _ h => h) ⟨by rfl, ?_⟩ hS ?_
      rotate_left
      · intro wq hSw; go_simp; try rfl
      simp only [Act.put, List.setIfInBounds_toArray, List.set_cons_zero, List.set_cons_succ]
      refine take_at 13 (some 49) (v := ?_) rfl rfl (by kernel_rfl) (by kernel_rfl) (by kernel_rfl) (fun _ _ _ h => h) ⟨by rfl, ?_⟩ hS ?_
      rotate_left
      · intro wq hSw; have qc := (XO5.out.keep hSw (fun q => by rcases q with q | q; (have e9 : ob = T.c i := q; have l4 := L4.out.1; rw [← e9] at l4; have := LBS.out; omega); (have l4 : lb ob = 4 + i := L4.out.2 ob q; have := LBS.out; omega))).cells; obtain ⟨q0, _⟩ := qc.get 14 _ rfl; obtain ⟨q1, _⟩ := qc.get 15 _ rfl; obtain ⟨q2, _⟩ := qc.get 16 _ rfl; clear qc; go_simp; try rfl
      simp only [Act.put, List.setIfInBounds_toArray, List.set_cons_zero, List.set_cons_succ]
      refine take_at 14 (some 50) (v := ?_) rfl rfl (by kernel_rfl) (by kernel_rfl) (by kernel_rfl) (fun _ _ _ h => h) ⟨by rfl, ?_⟩ hS ?_
      rotate_left
      · intro wq hSw; go_simp; try rfl
      simp only [Act.put, List.setIfInBounds_toArray, List.set_cons_zero, List.set_cons_succ]
      refine take_at 15 (some 51) (v := ?_) rfl rfl (by kernel_rfl) (by kernel_rfl) (by kernel_rfl) (fun _ _ _ h => h) ⟨by rfl, ?_⟩ hS ?_
      rotate_left
      · intro wq hSw; have qc := (XP5.out.keep hSw (fun q => by rcases q with q | q; (have e9 : pb = T.c i := q; have l4 := L4.out.1; rw [← e9] at l4; have := LBS.out; omega); (have l4 : lb pb = 4 + i := L4.out.2 pb q; have := LBS.out; omega))).cells; obtain ⟨q0, _⟩ := qc.get 14 _ rfl; obtain ⟨q1, _⟩ := qc.get 15 _ rfl; obtain ⟨q2, _⟩ := qc.get 16 _ rfl; clear qc; go_simp; try rfl
      simp only [Act.put, List.setIfInBounds_toArray, List.set_cons_zero, List.set_cons_succ]
      have B6 := hide (show Below B w w6 from B5.out.trans (K6.out.below (Nat.le_trans HBS.out Z4.out) (fun z hz q => by rcases q with q | q; (have e9 : z = T.c i := q; have lo : B ≤ T.c i := (TB5.out.rr i hi).low; omega); (have lo : B ≤ z := (World.ownsRow.lt (TB5.out.rr i hi).row z q).1; omega))))
      have OL6 := hide (GRow.keep OL5.out K6.out (fun g hg q => by cases hg; exact (fun q => by rcases q with q | q; (have e9 : gL = T.c i := q; have l4 := L4.out.1; rw [← e9] at l4; have := LBS.out; omega); (have l4 : lb gL = 4 + i := L4.out.2 gL q; have := LBS.out; omega)) q))
      have OD6 := hide (GRow.keep OD5.out K6.out (fun g hg q => by cases hg; exact (fun q => by rcases q with q | q; (have e9 : gD = T.c i := q; have l4 := L4.out.1; rw [← e9] at l4; have := LBS.out; omega); (have l4 : lb gD = 4 + i := L4.out.2 gD q; have := LBS.out; omega)) q))
      refine wpAnyH_ready (rs := [16]) (by kernel_rfl) (by simp) ?_
      refine AllReadyH.cons rfl (fun K hK => ?_) AllReadyH.nil
      go_simp
      go_wp2_with fail
      refine (kept_any gL cL gD cD _ la1 da1 lc1 dc1 nx1 nx1 L1 D1 w6 OL6.out OD6.out (GX.out.1 _ B6.out) (GX.out.2.1 _ B6.out) (by omega) (by omega)).mono ?_
      rintro e w7 ⟨rfl, hh⟩
      have H7 := hide hh
      have B7 := hide (B6.out.trans (hh.mono (Nat.le_trans HBS.out (Nat.le_trans Z4.out K6.out.size))))
      have K7 := hide ((K6.out).trans (Keep.of_below (S := fun z => z = T.c i ∨ (T.v i).ownBlock = some z) hh) (fun _ _ q => q))
      clear hh hS
      go_wp2_with fail
      refine hK.out _ _ K7.out (fun hS => ?_)
      clear hK K
      (try simp only [Act.put, List.setIfInBounds_toArray, List.set_cons_zero, List.set_cons_succ])
      refine take_at 17 (some 53) (v := ?_) rfl rfl (by kernel_rfl) (by kernel_rfl) (by kernel_rfl) (fun _ _ _ h => h) ⟨by rfl, ?_⟩ hS ?_
      rotate_left
      · intro wq hSw; go_simp; try rfl
      simp only [Act.put, List.setIfInBounds_toArray, List.set_cons_zero, List.set_cons_succ]
      refine take_at 18 (some 6) (v := ?_) rfl rfl (by kernel_rfl) (by kernel_rfl) (by kernel_rfl) (fun _ _ _ h => h) ⟨by rfl, ?_⟩ hS ?_
      rotate_left
      · intro wq hSw; go_simp; try rfl
      simp only [Act.put, List.setIfInBounds_toArray, List.set_cons_zero, List.set_cons_succ]
      clear hS
      refine wpAnyH_done (by kernel_rfl) ?_ _
      go_wp2_with fail
      go_ret
      obtain ⟨v', tb, kk⟩ := TB5.out.rtookP hi (RPost.belowL ((Below.refl _ _).drew) RP6.out)
      have tb7 := tb.below H7.out
      refine ⟨by first | rfl | simp, _, _, tb7, fun j hj => ?_, rfl, B7.out, Nat.le_refl _⟩
      show upd T.rp i r1 j = upd T.rq i r1 j
      by_cases q : j = i
      · rw [q, upd_same, upd_same]
      · rw [upd_other _ _ q, upd_other _ _ q]; exact HQ.out j hj
end Go.Proofs.Ytokcocmenndlmaa
