import Derived.Test.YtokcocmenndlmaaTx40
namespace Go.Proofs.Ytokcocmenndlmaa
open Go.RowKit Go.QK Go.Maps Go.QM Go.QT
set_option maxRecDepth 100000
structure OpX where
  (kind n lsn k tx prev z4 z5 z6 z7 z8 z9 z10 z11 z12 z13 nx pnx : Int)
  (wh : Bool)
  (la da pla pda : Option Addr)
  (lc dc plc pdc : Nat)
  (L PL : List Lv)
  (D PD : List (Int × Int))
abbrev opX (o : OpX) : List Value := [.int .i64 o.kind, .bool o.wh, .int .i64 o.n, .int .i64 o.lsn, .int .i64 o.k, .int .i64 o.tx, .int .i64 o.prev, .int .i64 o.z4, .int .i64 o.z5, .int .i64 o.z6, .int .i64 o.z7, .int .i64 o.z8, .int .i64 o.z9, .int .i64 o.z10, .int .i64 o.z11, .int .i64 o.z12, .int .i64 o.z13, .slice o.la o.L.length o.lc, .slice o.da o.D.length o.dc, .int .i64 o.nx, .slice o.pla o.PL.length o.plc, .slice o.pda o.PD.length o.pdc, .int .i64 o.pnx]
structure OkX (w : World) (o : OpX) : Prop where
  n64 : I64 o.n
  t64 : I64 o.tx
  l : Lies w o.la (rowsC lvC o.L)
  d : Lies w o.da (rowsC dC o.D)
  pl : Lies w o.pla (rowsC lvC o.PL)
  pd : Lies w o.pda (rowsC dC o.PD)
  nl : o.la = none → o.lc = 0 ∧ o.L.length = 0
  nd : o.da = none → o.dc = 0 ∧ o.D.length = 0
  npl : o.pla = none → o.plc = 0 ∧ o.PL.length = 0
  npd : o.pda = none → o.pdc = 0 ∧ o.PD.length = 0
  cl : o.PL.length ≤ o.plc
  cd : o.PD.length ≤ o.pdc
theorem OkX.arg {w wr : World} {o : OpX} {B : Nat} (h : OkX w o) (hb : Below w.heap.size w wr) (hB : w.heap.size ≤ B) : Arg B wr o.n o.tx o.la o.da o.pla o.pda o.lc o.dc o.plc o.pdc o.L o.PL o.D o.PD :=
  ⟨h.n64, h.t64, fun _ q => h.l.below (hb.trans (q.mono hB)), fun _ q => h.d.below (hb.trans (q.mono hB)), fun _ q => h.pl.below (hb.trans (q.mono hB)), fun _ q => h.pd.below (hb.trans (q.mono hB)), h.nl, h.nd, h.npl, h.npd, h.cl, h.cd⟩
theorem size77 : (Try.prog.info? 77).map (·.size) = some 23 := by kernel_rfl
theorem wpList_ld77 {ops : Array Oper} {rest : List Oper} {a : Act} {w : World} {Q : Exit → Act → World → Prop} {d : Option Tmp} {ty : TypeId} {ps : String} {af : Array Edge} {x : Operand} {b off : Nat} {cs : Array Value} (hc : ∀ j v, cs.toList[j]? = some v → w.cell? ⟨b, off + j, none⟩ = some v) (hs : cs.size = 23) (hx : a.eval x = .pointer (some ⟨b, off, none⟩)) (h : wpList Try.prog ops Q rest (a.put d (.agg cs)) w) :
    wpList Try.prog ops Q ({ dst := d, op := .load 77 x, type := ty, pos := ps, after := af, guard := none } :: rest) a w := by
  have hrun := run_ldAt w b off 77 cs _ hc Try.underlying77 rfl (by rw [hs]; exact size77)
  refine wpList_plain rfl fun K hK => ?_
  unfold Oper.wp execOp
  simp only [hx, Instr.loadAt, Instr.sureAddr, Sem.run_bind, Sem.run_pure, Result.andThen_ok, hrun]
  exact hK _ _ h
set_option maxHeartbeats 8000000 in
theorem law_exact (os : List OpX) (sa : Option Addr) (sc : Nat) (w : World) (hli : Lies w sa (rowsC opX os)) (hos : ∀ o ∈ os, OkX w o) : Calls Try.prog 5 #[.slice sa os.length sc] w fun e w' => e = .returned (.bool true) ∧ Below w.heap.size w w' := by
  have HLI := hide hli
  have HOS := hide hos
  clear hli hos
  go_enter Try.func5, Try.ntmps5
  go_wp2_with fail
  refine (awake_any _).mono ?_
  rintro e w0 ⟨rfl, hb⟩
  have B0 := hide hb
  clear hb
  go_upto_region 4 with fail
  refine named (P := Code.wp _ _ _ _) ?_
  intro wt hwt
  have C0 := hide (show Cells wt w0.heap.size [.pointer none, .pointer none, .pointer none, .pointer none, .slice none 0 0, .slice none 0 0] by rw [hwt]; exact Cells.new _ _ _)
  have TOP := hide (show wt.heap.size = w0.heap.size + 1 by rw [hwt]; simp)
  have B1 := hide (show Below w.heap.size w wt by rw [hwt]; exact B0.out.alloc B0.out.size _)
  have LOW := hide B0.out.size
  clear hwt B0
  obtain ⟨t, htt⟩ : ∃ t, t = w0.heap.size := ⟨_, rfl⟩
  rw [← htt] at C0 TOP LOW ⊢
  clear htt
  have KN : ∀ w, Calls Try.prog 6 #[.int .i64 1] w _ := fun w => new_yes 1 w rfl
  have KM : ∀ w, Calls Try.prog 19 #[.int .i64 1] w _ := fun w => rnew_yes 1 w rfl
  have INIT := hide C0.out
  go_wp2_with fail
  go_loopw [4] (fun v wr => (v = .int .i64 0 ∧ wr = wt) ∨ (v = .int .i64 1 ∧ ∃ b0 m0 c0 wb, Below wt.heap.size wt wb ∧ PT wb b0 m0 ⟨[], 1⟩ ∧ RT wb c0 c0 (.slice none 0 0) ⟨[], 1⟩ ∧ (wt.heap.size ≤ b0 ∧ wt.heap.size ≤ m0) ∧ (c0 ≠ b0 ∧ c0 ≠ m0) ∧ wt.heap.size ≤ c0 ∧ wr = (wb.setCell ⟨t, 0, none⟩ (ptr b0)).setCell ⟨t, 2, none⟩ (ptr c0)) ∨ (v = .int .i64 2 ∧ ∃ lab T, Tb lab wr t T ∧ (∀ j, j < 2 → T.rp j = T.rq j) ∧ T.t = t ∧ T.ls = [] ∧ Below t wt wr)) (fun v _ => 2 - (intOf v).toNat)
  case atStart => exact .inl ⟨rfl, rfl⟩
  case round =>
    rcases hrel with ⟨rfl, rfl⟩ | ⟨rfl, b0, m0, c0, wb, i1, i2, i3, i4, i5, i6, i7⟩ | ⟨rfl, lab, T, tb, heq, hTt, hls, hbel⟩
    · have C0 := hide C0.out
      go_wp2_with fail
      refine (KN _).mono ?_
      rintro e wa ⟨rfl, pt, hh, sz⟩
      obtain ⟨m0, hm0⟩ : ∃ b, b = wr.heap.size := ⟨_, rfl⟩
      obtain ⟨b0, hb0⟩ : ∃ b, b = wr.heap.size + 1 := ⟨_, rfl⟩
      rw [← hb0] at pt ⊢
      rw [← hm0] at pt
      have P0 := hide pt
      have H0 := hide hh
      have S0 := hide sz
      have M0 := hide (And.intro hm0 hb0)
      clear pt hh sz hm0 hb0
      go_wp2_with fail
      refine (KM _).mono ?_
      rintro e wb ⟨rfl, rt, hh, sz⟩
      obtain ⟨c0, hc0⟩ : ∃ b, b = wa.heap.size := ⟨_, rfl⟩
      rw [← hc0] at rt ⊢
      have R0 := hide rt
      have HH0 := hide (H0.out.trans (hh.mono H0.out.size))
      have PP0 := hide (P0.out.below hh)
      have L0 := hide hc0
      clear rt hh sz hc0
      have KB0 : Calls Try.prog 20 #[ptr t, .int .i64 0, ptr b0, .int .i64 0, ptr c0, .int .i64 0] wb _ := begins_yes t 0 b0 c0 _ wb (C0.out.below HH0.out) rfl (by omega)
      go_wp2_with fail
      refine KB0.mono ?_
      rintro e wd ⟨rfl, hw0⟩
      have C2 := hide (show Cells wd t [ptr b0, .pointer none, ptr c0, .pointer none, .slice none 0 0, .slice none 0 0] by
        have a1 := ((C0.out.below HH0.out).stored (j := 0) (by simp) (ptr b0)).stored (j := 2) (by simp) (ptr c0)
        rw [hw0]
        simpa using a1)
      have HW0 := hide hw0
      clear hw0 KB0
      have X0 := hide (show c0 ≠ b0 ∧ c0 ≠ m0 by rw [L0.out, S0.out, M0.out.1, M0.out.2]; omega)
      go_wp2_with fail
      go_roundw
      case rel => exact .inr (.inl ⟨rfl, b0, m0, c0, wb, HH0.out, PP0.out, R0.out, ⟨by rw [M0.out.2]; omega, by rw [M0.out.1]; exact Nat.le_refl _⟩, X0.out, by rw [L0.out]; exact H0.out.size, HW0.out⟩)
      case measure => simp [intOf]
    · have Q1 := hide (And.intro i1 (And.intro i2 (And.intro i3 (And.intro i4 (And.intro i5 (And.intro i6 i7))))))
      have C2 := hide (show Cells wr t [ptr b0, .pointer none, ptr c0, .pointer none, .slice none 0 0, .slice none 0 0] by
        have a1 := ((C0.out.below i1).stored (j := 0) (by simp) (ptr b0)).stored (j := 2) (by simp) (ptr c0)
        rw [i7]
        simpa using a1)
      clear i1 i2 i3 i4 i5 i6 i7
      go_wp2_with fail
      refine (KN _).mono ?_
      rintro e we ⟨rfl, pt, hh, sz⟩
      obtain ⟨m1, hm1⟩ : ∃ b, b = wr.heap.size := ⟨_, rfl⟩
      obtain ⟨b1, hb1⟩ : ∃ b, b = wr.heap.size + 1 := ⟨_, rfl⟩
      rw [← hb1] at pt ⊢
      rw [← hm1] at pt
      have P1 := hide pt
      have H1 := hide hh
      have S1 := hide sz
      have M1 := hide (And.intro hm1 hb1)
      clear pt hh sz hm1 hb1
      go_wp2_with fail
      refine (KM _).mono ?_
      rintro e wf ⟨rfl, rt, hh, sz⟩
      obtain ⟨c1, hc1⟩ : ∃ b, b = we.heap.size := ⟨_, rfl⟩
      rw [← hc1] at rt ⊢
      have R1 := hide rt
      have HH1 := hide (H1.out.trans (hh.mono H1.out.size))
      have PP1 := hide (P1.out.below hh)
      have L1 := hide hc1
      clear rt hh sz hc1
      have KB1 : Calls Try.prog 20 #[ptr t, .int .i64 1, ptr b1, .int .i64 0, ptr c1, .int .i64 0] wf _ := begins_yes t 1 b1 c1 _ wf (C2.out.below HH1.out) rfl (by omega)
      go_wp2_with fail
      refine KB1.mono ?_
      rintro e wg ⟨rfl, hw1⟩
      have C4 := hide (show Cells wg t [ptr b0, ptr b1, ptr c0, ptr c1, .slice none 0 0, .slice none 0 0] by
        have a1 := ((C2.out.below HH1.out).stored (j := 1) (by simp) (ptr b1)).stored (j := 3) (by simp) (ptr c1)
        rw [hw1]
        simpa using a1)
      have HW1 := hide hw1
      clear hw1 KB1
      have X1 := hide (show c1 ≠ b1 ∧ c1 ≠ m1 by rw [L1.out, S1.out, M1.out.1, M1.out.2]; omega)
      have FIN := hide (init_tb C0.out TOP.out Q1.out.1 Q1.out.2.1 Q1.out.2.2.1 Q1.out.2.2.2.1 Q1.out.2.2.2.2.1 Q1.out.2.2.2.2.2.1 Q1.out.2.2.2.2.2.2 HH1.out PP1.out R1.out ⟨by rw [M1.out.2]; omega, by rw [M1.out.1]; exact Nat.le_refl _⟩ X1.out (by rw [L1.out]; exact H1.out.size) HW1.out)
      go_wp2_with fail
      go_roundw
      case rel => exact .inr (.inr ⟨rfl, FIN.out⟩)
      case measure => simp [intOf]
    · clear KN KM
      have TB := hide tb
      have HQ := hide heq
      have HT := hide hTt
      have HL := hide (show T.ls.length ≤ 2 * 0 by rw [hls]; simp)
      have BF := hide (B1.out.trans (hbel.mono LOW.out))
      clear tb heq hTt hls hbel C0 TOP B1 INIT
      go_wp2_with fail
      go_loopw [10] (fun v wr => ∃ k : Nat, v = .int .i64 (k : Int) ∧ k ≤ os.length ∧ k ≤ 200 ∧ ∃ lb T', Tb lb wr t T' ∧ (∀ j, j < 2 → T'.rp j = T'.rq j) ∧ T'.t = t ∧ T'.ls.length ≤ 2 * k ∧ Below w.heap.size w wr) (fun v _ => 200 - (intOf v).toNat)
      case atStart => exact ⟨0, rfl, Nat.zero_le _, by omega, lab, T, TB.out, HQ.out, HT.out, HL.out, BF.out⟩
      case round =>
        obtain ⟨k, rfl, hk1, hk2, lb, T', h1, h2, h3, h4, h5⟩ := hrel
        clear TB HQ HT HL BF
        have HB := hide h5
        by_cases hlt : k < os.length
        · by_cases hlt2 : k < 200
          · obtain ⟨bl, off, ha, hbl, hcell⟩ := Lies.rowAt opX 23 (fun _ => rfl) HLI.out k hlt (by omega)
            subst ha
            obtain ⟨o, ho⟩ : ∃ o, o = os[k] := ⟨_, rfl⟩
            rw [← ho] at hcell
            have HC := hide (show ∀ j v, (List.toArray (opX o)).toList[j]? = some v → wr.cell? ⟨bl, off + k * 23 + j, none⟩ = some v from fun j v hv => (h5.cell (p := ⟨bl, off + k * 23 + j, none⟩) hbl).trans (hcell j v (by simpa using hv)))
            have hok := HOS.out os[k] (List.getElem_mem hlt)
            rw [← ho] at hok
            have KP := plays_any lb t T' o.n o.lsn o.k o.tx o.prev o.z4 o.z5 o.z6 o.z7 o.z8 o.z9 o.z10 o.z11 o.z12 o.z13 o.nx o.pnx o.kind o.wh o.la o.da o.pla o.pda o.lc o.dc o.plc o.pdc o.L o.PL o.D o.PD wr h1 h2 (hok.arg h5 LOW.out) (by omega)
            obtain ⟨rv, hrv⟩ : ∃ x : Array Value, x = List.toArray (opX o) := ⟨_, rfl⟩
            have HS := hide (show rv.size = 23 by rw [hrv]; rfl)
            rw [← hrv] at KP HC
            unfold TPost at KP
            rw [h3] at KP
            have hk3 : decide ((k : Int) < 200) = true := by simp; omega
            have H4 := hide h4
            clear hcell ho h1 h2 h3 h4 h5 hok hrv
            go_wp2_with (refine wpList_ld77 HC.out HS.out rfl ?_)
            refine KP.mono ?_
            rintro e w2 ⟨rfl, lb', T'', g1, g2, g3, g4, g5⟩
            have KH := holds_any lb' t T'' w2 g1
            rw [g3] at KH
            have HG := hide (And.intro g1 (And.intro g2 g3))
            have HB2 := hide (HB.out.trans (g4.mono LOW.out))
            have HL2 := hide (show T''.ls.length ≤ 2 * (k + 1) by have := H4.out; omega)
            clear g1 g2 g3 g4 g5 KP HB H4
            go_wp2_with fail
            refine KH.mono ?_
            rintro e w3 ⟨rfl, hh⟩
            have TB3 := hide (HG.out.1.below hh)
            have HB3 := hide (HB2.out.trans (hh.mono HB2.out.size))
            clear hh
            go_wp2_with fail
            go_roundw
            case rel => first | exact ⟨k + 1, by go_num, by omega, by omega, lb', T'', TB3.out, HG.out.2.1, HG.out.2.2, HL2.out, HB3.out⟩ | ((repeat apply Exists.intro); exact ⟨⟨k + 1, by go_num, by omega, by omega, lb', T'', TB3.out, HG.out.2.1, HG.out.2.2, HL2.out, HB3.out⟩, rfl⟩)
            case measure => simp [intOf]; omega
          · clear h1 h2 h3 h4 h5
            go_wp2_with fail
            go_ret
            exact ⟨rfl, HB.out⟩
        · clear h1 h2 h3 h4 h5
          go_wp2_with fail
          go_ret
          exact ⟨rfl, HB.out⟩
end Go.Proofs.Ytokcocmenndlmaa
