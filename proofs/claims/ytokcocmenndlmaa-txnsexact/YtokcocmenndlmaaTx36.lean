import Derived.Test.YtokcocmenndlmaaTx34
import Derived.Test.YtokcocmenndlmaaTx35
namespace Go.Proofs.Ytokcocmenndlmaa
open Go.RowKit Go.QK Go.Maps Go.QM Go.QT
set_option maxRecDepth 100000
theorem run_ldAt (w : World) (b off : Nat) (ty : TypeId) (cs : Array Value) (d : TypeDesc) (hc : ∀ j v, cs.toList[j]? = some v → w.cell? ⟨b, off + j, none⟩ = some v) (hu : Try.prog.underlying ty = some d) (hd : (match d with | .struct _ | .array _ _ => true | _ => false) = true) (hi : (Try.prog.info? ty).map (·.size) = some cs.size) :
    (loadVar ty ⟨b, off, none⟩).run Try.prog w = .ok (.agg cs) w := by
  have hl : (loadCells ⟨b, off, none⟩ cs.toList.length).run Try.prog w = .ok cs.toList.toArray w :=
    run_loadCells_list (P := Try.prog) w ⟨b, off, none⟩ cs.toList (fun j v hv => by
      rw [addr_add]
      exact hc j v hv)
  cases hq : Try.prog.info? ty with
  | none => simp [hq] at hi
  | some i =>
    have hs : i.size = cs.size := by simpa [hq] using hi
    have hagg : (isAgg ty).run Try.prog w = .ok true w := by
      unfold isAgg
      rw [Sem.run_bind, run_underlying hu w]
      cases d <;> simp_all
    simp only [Array.length_toList, Array.toArray_toList] at hl
    simp [loadVar, Sem.run_bind, hagg, sizeOf, typeInfo, hq, hs, hl]
theorem wpList_ldAt {ops : Array Oper} {rest : List Oper} {a : Act} {w : World} {Q : Exit → Act → World → Prop} {d : Option Tmp} {ty : TypeId} {ps : String} {af : Array Edge} {x : Operand} {b off : Nat} {cs : Array Value} (hc : ∀ j v, cs.toList[j]? = some v → w.cell? ⟨b, off + j, none⟩ = some v) (hs : cs.size = 17) (hx : a.eval x = .pointer (some ⟨b, off, none⟩)) (h : wpList Try.prog ops Q rest (a.put d (.agg cs)) w) :
    wpList Try.prog ops Q ({ dst := d, op := .load 51 x, type := ty, pos := ps, after := af, guard := none } :: rest) a w := by
  have hrun := run_ldAt w b off 51 cs _ hc Try.underlying51 rfl (size51' hs)
  refine wpList_plain rfl fun K hK => ?_
  unfold Oper.wp execOp
  simp only [hx, Instr.loadAt, Instr.sureAddr, Sem.run_bind, Sem.run_pure, Result.andThen_ok, hrun]
  exact hK _ _ h
/-- What a call's arguments bear. -/
structure Arg (B : Nat) (w : World) (n tx : Int) (la da pla pda : Option Addr) (lc dc plc pdc : Nat) (L PL : List Lv) (D PD : List (Int × Int)) : Prop where
  n64 : I64 n
  t64 : I64 tx
  l : ∀ w', Below B w w' → Lies w' la (rowsC lvC L)
  d : ∀ w', Below B w w' → Lies w' da (rowsC dC D)
  pl : ∀ w', Below B w w' → Lies w' pla (rowsC lvC PL)
  pd : ∀ w', Below B w w' → Lies w' pda (rowsC dC PD)
  nl : la = none → lc = 0 ∧ L.length = 0
  nd : da = none → dc = 0 ∧ D.length = 0
  npl : pla = none → plc = 0 ∧ PL.length = 0
  npd : pda = none → pdc = 0 ∧ PD.length = 0
  cl : PL.length ≤ plc
  cd : PD.length ≤ pdc
theorem TPost.after {m : Nat} {w w1 w2 : World} {B : Nat} {T : Tab} {e : Ending} (hb : Below B w w1) (h : TPost m w1 B T e w2) : TPost m w B T e w2 := by
  obtain ⟨h1, lab', T', h2, h3, h4, h5, h6⟩ := h
  exact ⟨h1, lab', T', h2, h3, h4, hb.trans h5, h6⟩
theorem TPost.more {w w2 : World} {B : Nat} {T : Tab} {e : Ending} (h : TPost 0 w B T e w2) : TPost 2 w B T e w2 := by
  obtain ⟨h1, lab', T', h2, h3, h4, h5, h6⟩ := h
  exact ⟨h1, lab', T', h2, h3, h4, h5, by omega⟩
theorem TPost.ans {m : Nat} {w w2 : World} {B : Nat} {T : Tab} {e : Ending} (h : TPost m w B T e w2) : e = .returned (.bool true) := h.1
set_option maxHeartbeats 8000000 in
theorem play3_t (lab : Nat → Nat) (B : Nat) (T : Tab) (n lsn k tx prev z4 z5 z6 z7 z8 z9 z10 z11 z12 z13 nx pnx : Int) (la da pla pda : Option Addr) (lc dc plc pdc : Nat) (L PL : List Lv) (D PD : List (Int × Int)) (w : World) (h : Tb lab w B T) (he : ∀ j, j < 2 → T.rp j = T.rq j) (ha : Arg B w n tx la da pla pda lc dc plc pdc L PL D PD) (hm : T.ls.length + 2 ≤ 100000) :
    Calls Try.prog 21 #[ptr T.t, .agg (List.toArray [.int .i64 3, .bool true, .int .i64 n, .int .i64 lsn, .int .i64 k, .int .i64 tx, .int .i64 prev, .int .i64 z4, .int .i64 z5, .int .i64 z6, .int .i64 z7, .int .i64 z8, .int .i64 z9, .int .i64 z10, .int .i64 z11, .int .i64 z12, .int .i64 z13, .slice la L.length lc, .slice da D.length dc, .int .i64 nx, .slice pla PL.length plc, .slice pda PD.length pdc, .int .i64 pnx])] w (TPost 2 w B T) := by
  have HBS := hide (show B ≤ w.heap.size by have := h.low.1; have := h.box.1; omega)
  have HQ := hide he
  have HT0 := hide h
  have HA := hide ha
  clear h he ha
  go_enter Try.func21, Try.ntmps21
  go_upto_region 1 with fail
  refine named (P := Code.wp _ _ _ _) ?_
  intro w1 hw1
  obtain ⟨bx, hbx⟩ : ∃ b, b = w.heap.size := ⟨_, rfl⟩
  have HX := hide (show Cells w1 bx [.int .i64 3, .bool true, .int .i64 n, .int .i64 lsn, .int .i64 k, .int .i64 tx, .int .i64 prev, .int .i64 z4, .int .i64 z5, .int .i64 z6, .int .i64 z7, .int .i64 z8, .int .i64 z9, .int .i64 z10, .int .i64 z11, .int .i64 z12, .int .i64 z13, .slice la L.length lc, .slice da D.length dc, .int .i64 nx, .slice pla PL.length plc, .slice pda PD.length pdc, .int .i64 pnx] by rw [hw1, hbx]; exact Cells.new w _ _)
  have HB := hide (show Below w.heap.size w w1 by rw [hw1]; exact alloc_below _ _)
  have HBB := hide (HB.out.mono HBS.out)
  have HT := hide (HT0.out.below HB.out)
  rw [← hbx]
  clear hw1 hbx HT0
  obtain ⟨v0, -⟩ := HX.out.get 0 _ rfl
  obtain ⟨v1, -⟩ := HX.out.get 1 _ rfl
  obtain ⟨v2, -⟩ := HX.out.get 2 _ rfl
  have KL : Calls Try.prog 35 #[ptr T.t, .int .i64 1] w1 _ := lists_any lab B T 1 w1 HT.out (by omega) HQ.out hm
  go_wp2_with fail
  refine KL.mono ?_
  intro e w2 hp
  obtain rfl := hp.ans
  have HP := hide hp
  clear hp
  go_wp2_with fail
  go_ret
  exact HP.out.after HBB.out
set_option maxHeartbeats 8000000 in
theorem play2_t (lab : Nat → Nat) (B : Nat) (T : Tab) (n lsn k tx prev z4 z5 z6 z7 z8 z9 z10 z11 z12 z13 nx pnx : Int) (la da pla pda : Option Addr) (lc dc plc pdc : Nat) (L PL : List Lv) (D PD : List (Int × Int)) (w : World) (h : Tb lab w B T) (he : ∀ j, j < 2 → T.rp j = T.rq j) (ha : Arg B w n tx la da pla pda lc dc plc pdc L PL D PD) (_hm : T.ls.length + 2 ≤ 100000) :
    Calls Try.prog 21 #[ptr T.t, .agg (List.toArray [.int .i64 2, .bool true, .int .i64 n, .int .i64 lsn, .int .i64 k, .int .i64 tx, .int .i64 prev, .int .i64 z4, .int .i64 z5, .int .i64 z6, .int .i64 z7, .int .i64 z8, .int .i64 z9, .int .i64 z10, .int .i64 z11, .int .i64 z12, .int .i64 z13, .slice la L.length lc, .slice da D.length dc, .int .i64 nx, .slice pla PL.length plc, .slice pda PD.length pdc, .int .i64 pnx])] w (TPost 2 w B T) := by
  have HBS := hide (show B ≤ w.heap.size by have := h.low.1; have := h.box.1; omega)
  have HQ := hide he
  have HT0 := hide h
  have HA := hide ha
  clear h he ha
  go_enter Try.func21, Try.ntmps21
  go_upto_region 1 with fail
  refine named (P := Code.wp _ _ _ _) ?_
  intro w1 hw1
  obtain ⟨bx, hbx⟩ : ∃ b, b = w.heap.size := ⟨_, rfl⟩
  have HX := hide (show Cells w1 bx [.int .i64 2, .bool true, .int .i64 n, .int .i64 lsn, .int .i64 k, .int .i64 tx, .int .i64 prev, .int .i64 z4, .int .i64 z5, .int .i64 z6, .int .i64 z7, .int .i64 z8, .int .i64 z9, .int .i64 z10, .int .i64 z11, .int .i64 z12, .int .i64 z13, .slice la L.length lc, .slice da D.length dc, .int .i64 nx, .slice pla PL.length plc, .slice pda PD.length pdc, .int .i64 pnx] by rw [hw1, hbx]; exact Cells.new w _ _)
  have HB := hide (show Below w.heap.size w w1 by rw [hw1]; exact alloc_below _ _)
  have HBB := hide (HB.out.mono HBS.out)
  have HT := hide (HT0.out.below HB.out)
  rw [← hbx]
  clear hw1 hbx HT0
  obtain ⟨v0, -⟩ := HX.out.get 0 _ rfl
  obtain ⟨v1, -⟩ := HX.out.get 1 _ rfl
  obtain ⟨v2, -⟩ := HX.out.get 2 _ rfl
  obtain ⟨v20, -⟩ := HX.out.get 20 _ rfl
  obtain ⟨v21, -⟩ := HX.out.get 21 _ rfl
  obtain ⟨v22, -⟩ := HX.out.get 22 _ rfl
  have KL : Calls Try.prog 34 #[ptr T.t, .int .i64 1, .agg #[.slice pla PL.length plc, .slice pda PD.length pdc, .int .i64 pnx]] w1 _ := loads_any lab B T 1 pla pda plc pdc pnx PL PD w1 HT.out (by omega) HQ.out (HA.out.pl _ HBB.out) (HA.out.pd _ HBB.out) HA.out.npl HA.out.npd HA.out.cl HA.out.cd
  go_wp2_with fail
  refine KL.mono ?_
  intro e w2 hp
  obtain rfl := hp.ans
  have HP := hide hp
  clear hp
  go_wp2_with fail
  go_ret
  exact (HP.out.after HBB.out).more
set_option maxHeartbeats 8000000 in
theorem play6_t (lab : Nat → Nat) (B : Nat) (T : Tab) (n lsn k tx prev z4 z5 z6 z7 z8 z9 z10 z11 z12 z13 nx pnx : Int) (la da pla pda : Option Addr) (lc dc plc pdc : Nat) (L PL : List Lv) (D PD : List (Int × Int)) (w : World) (h : Tb lab w B T) (he : ∀ j, j < 2 → T.rp j = T.rq j) (ha : Arg B w n tx la da pla pda lc dc plc pdc L PL D PD) (_hm : T.ls.length + 2 ≤ 100000) :
    Calls Try.prog 21 #[ptr T.t, .agg (List.toArray [.int .i64 6, .bool true, .int .i64 n, .int .i64 lsn, .int .i64 k, .int .i64 tx, .int .i64 prev, .int .i64 z4, .int .i64 z5, .int .i64 z6, .int .i64 z7, .int .i64 z8, .int .i64 z9, .int .i64 z10, .int .i64 z11, .int .i64 z12, .int .i64 z13, .slice la L.length lc, .slice da D.length dc, .int .i64 nx, .slice pla PL.length plc, .slice pda PD.length pdc, .int .i64 pnx])] w (TPost 2 w B T) := by
  have HBS := hide (show B ≤ w.heap.size by have := h.low.1; have := h.box.1; omega)
  have HQ := hide he
  have HT0 := hide h
  have HA := hide ha
  clear h he ha
  go_enter Try.func21, Try.ntmps21
  go_upto_region 1 with fail
  refine named (P := Code.wp _ _ _ _) ?_
  intro w1 hw1
  obtain ⟨bx, hbx⟩ : ∃ b, b = w.heap.size := ⟨_, rfl⟩
  have HX := hide (show Cells w1 bx [.int .i64 6, .bool true, .int .i64 n, .int .i64 lsn, .int .i64 k, .int .i64 tx, .int .i64 prev, .int .i64 z4, .int .i64 z5, .int .i64 z6, .int .i64 z7, .int .i64 z8, .int .i64 z9, .int .i64 z10, .int .i64 z11, .int .i64 z12, .int .i64 z13, .slice la L.length lc, .slice da D.length dc, .int .i64 nx, .slice pla PL.length plc, .slice pda PD.length pdc, .int .i64 pnx] by rw [hw1, hbx]; exact Cells.new w _ _)
  have HB := hide (show Below w.heap.size w w1 by rw [hw1]; exact alloc_below _ _)
  have HBB := hide (HB.out.mono HBS.out)
  have HT := hide (HT0.out.below HB.out)
  rw [← hbx]
  clear hw1 hbx HT0
  obtain ⟨v0, -⟩ := HX.out.get 0 _ rfl
  obtain ⟨v1, -⟩ := HX.out.get 1 _ rfl
  obtain ⟨v2, -⟩ := HX.out.get 2 _ rfl
  have HC := hide (show ∀ j v, (#[.int .i64 lsn, .int .i64 k, .int .i64 tx, .int .i64 prev, .int .i64 z4, .int .i64 z5, .int .i64 z6, .int .i64 z7, .int .i64 z8, .int .i64 z9, .int .i64 z10, .int .i64 z11, .int .i64 z12, .int .i64 z13, .slice la L.length lc, .slice da D.length dc, .int .i64 nx] : Array Value).toList[j]? = some v → w1.cell? ⟨bx, 3 + j, none⟩ = some v from fun j v hv => (HX.out.get (3 + j) v (by rw [Nat.add_comm]; simpa using (List.getElem?_append_left (l₂ := [.slice pla PL.length plc, .slice pda PD.length pdc, .int .i64 pnx]) (by exact (List.getElem?_eq_some_iff.1 hv).1)).trans hv)).1)
  have KL : Calls Try.prog 38 #[ptr T.t, .int .i64 1, .agg #[.int .i64 lsn, .int .i64 k, .int .i64 tx, .int .i64 prev, .int .i64 z4, .int .i64 z5, .int .i64 z6, .int .i64 z7, .int .i64 z8, .int .i64 z9, .int .i64 z10, .int .i64 z11, .int .i64 z12, .int .i64 z13, .slice la L.length lc, .slice da D.length dc, .int .i64 nx]] w1 _ := notes_any lab B T 1 lsn k tx prev z4 z5 z6 z7 z8 z9 z10 z11 z12 z13 la da lc dc nx L D w1 HT.out (by omega) HQ.out HA.out.t64 (fun w' h => HA.out.l _ (HBB.out.trans h)) (fun w' h => HA.out.d _ (HBB.out.trans h)) HA.out.nl HA.out.nd
  go_wp2_with (refine wpList_ldAt HC.out rfl rfl ?_)
  refine KL.mono ?_
  intro e w2 hp
  obtain rfl := hp.ans
  have HP := hide hp
  clear hp
  go_wp2_with fail
  go_ret
  exact (HP.out.after HBB.out).more
set_option maxHeartbeats 8000000 in
theorem play0_t (lab : Nat → Nat) (B : Nat) (T : Tab) (n lsn k tx prev z4 z5 z6 z7 z8 z9 z10 z11 z12 z13 nx pnx kind : Int) (la da pla pda : Option Addr) (lc dc plc pdc : Nat) (L PL : List Lv) (D PD : List (Int × Int)) (w : World) (h : Tb lab w B T) (he : ∀ j, j < 2 → T.rp j = T.rq j) (ha : Arg B w n tx la da pla pda lc dc plc pdc L PL D PD) (_hm : T.ls.length + 2 ≤ 100000) (hk : kind ≠ 1 ∧ kind ≠ 2 ∧ kind ≠ 3 ∧ kind ≠ 4 ∧ kind ≠ 5 ∧ kind ≠ 6) :
    Calls Try.prog 21 #[ptr T.t, .agg (List.toArray [.int .i64 kind, .bool true, .int .i64 n, .int .i64 lsn, .int .i64 k, .int .i64 tx, .int .i64 prev, .int .i64 z4, .int .i64 z5, .int .i64 z6, .int .i64 z7, .int .i64 z8, .int .i64 z9, .int .i64 z10, .int .i64 z11, .int .i64 z12, .int .i64 z13, .slice la L.length lc, .slice da D.length dc, .int .i64 nx, .slice pla PL.length plc, .slice pda PD.length pdc, .int .i64 pnx])] w (TPost 2 w B T) := by
  have HBS := hide (show B ≤ w.heap.size by have := h.low.1; have := h.box.1; omega)
  have HQ := hide he
  have HT0 := hide h
  have HA := hide ha
  clear h he ha
  go_enter Try.func21, Try.ntmps21
  go_upto_region 1 with fail
  refine named (P := Code.wp _ _ _ _) ?_
  intro w1 hw1
  obtain ⟨bx, hbx⟩ : ∃ b, b = w.heap.size := ⟨_, rfl⟩
  have HX := hide (show Cells w1 bx [.int .i64 kind, .bool true, .int .i64 n, .int .i64 lsn, .int .i64 k, .int .i64 tx, .int .i64 prev, .int .i64 z4, .int .i64 z5, .int .i64 z6, .int .i64 z7, .int .i64 z8, .int .i64 z9, .int .i64 z10, .int .i64 z11, .int .i64 z12, .int .i64 z13, .slice la L.length lc, .slice da D.length dc, .int .i64 nx, .slice pla PL.length plc, .slice pda PD.length pdc, .int .i64 pnx] by rw [hw1, hbx]; exact Cells.new w _ _)
  have HB := hide (show Below w.heap.size w w1 by rw [hw1]; exact alloc_below _ _)
  have HBB := hide (HB.out.mono HBS.out)
  have HT := hide (HT0.out.below HB.out)
  rw [← hbx]
  clear hw1 hbx HT0
  obtain ⟨v0, -⟩ := HX.out.get 0 _ rfl
  obtain ⟨v1, -⟩ := HX.out.get 1 _ rfl
  obtain ⟨v2, -⟩ := HX.out.get 2 _ rfl
  have k1 : (kind == 1) = false := by simpa using hk.1
  have k2 : (kind == 2) = false := by simpa using hk.2.1
  have k3 : (kind == 3) = false := by simpa using hk.2.2.1
  have k4 : (kind == 4) = false := by simpa using hk.2.2.2.1
  have k5 : (kind == 5) = false := by simpa using hk.2.2.2.2.1
  have k6 : (kind == 6) = false := by simpa using hk.2.2.2.2.2
  go_wp2_with fail
  go_ret
  exact ⟨rfl, lab, T, HT.out, HQ.out, rfl, HBB.out, by omega⟩
set_option maxHeartbeats 8000000 in
theorem play3_f (lab : Nat → Nat) (B : Nat) (T : Tab) (n lsn k tx prev z4 z5 z6 z7 z8 z9 z10 z11 z12 z13 nx pnx : Int) (la da pla pda : Option Addr) (lc dc plc pdc : Nat) (L PL : List Lv) (D PD : List (Int × Int)) (w : World) (h : Tb lab w B T) (he : ∀ j, j < 2 → T.rp j = T.rq j) (ha : Arg B w n tx la da pla pda lc dc plc pdc L PL D PD) (hm : T.ls.length + 2 ≤ 100000) :
    Calls Try.prog 21 #[ptr T.t, .agg (List.toArray [.int .i64 3, .bool false, .int .i64 n, .int .i64 lsn, .int .i64 k, .int .i64 tx, .int .i64 prev, .int .i64 z4, .int .i64 z5, .int .i64 z6, .int .i64 z7, .int .i64 z8, .int .i64 z9, .int .i64 z10, .int .i64 z11, .int .i64 z12, .int .i64 z13, .slice la L.length lc, .slice da D.length dc, .int .i64 nx, .slice pla PL.length plc, .slice pda PD.length pdc, .int .i64 pnx])] w (TPost 2 w B T) := by
  have HBS := hide (show B ≤ w.heap.size by have := h.low.1; have := h.box.1; omega)
  have HQ := hide he
  have HT0 := hide h
  have HA := hide ha
  clear h he ha
  go_enter Try.func21, Try.ntmps21
  go_upto_region 1 with fail
  refine named (P := Code.wp _ _ _ _) ?_
  intro w1 hw1
  obtain ⟨bx, hbx⟩ : ∃ b, b = w.heap.size := ⟨_, rfl⟩
  have HX := hide (show Cells w1 bx [.int .i64 3, .bool false, .int .i64 n, .int .i64 lsn, .int .i64 k, .int .i64 tx, .int .i64 prev, .int .i64 z4, .int .i64 z5, .int .i64 z6, .int .i64 z7, .int .i64 z8, .int .i64 z9, .int .i64 z10, .int .i64 z11, .int .i64 z12, .int .i64 z13, .slice la L.length lc, .slice da D.length dc, .int .i64 nx, .slice pla PL.length plc, .slice pda PD.length pdc, .int .i64 pnx] by rw [hw1, hbx]; exact Cells.new w _ _)
  have HB := hide (show Below w.heap.size w w1 by rw [hw1]; exact alloc_below _ _)
  have HBB := hide (HB.out.mono HBS.out)
  have HT := hide (HT0.out.below HB.out)
  rw [← hbx]
  clear hw1 hbx HT0
  obtain ⟨v0, -⟩ := HX.out.get 0 _ rfl
  obtain ⟨v1, -⟩ := HX.out.get 1 _ rfl
  obtain ⟨v2, -⟩ := HX.out.get 2 _ rfl
  have KL : Calls Try.prog 35 #[ptr T.t, .int .i64 0] w1 _ := lists_any lab B T 0 w1 HT.out (by omega) HQ.out hm
  go_wp2_with fail
  refine KL.mono ?_
  intro e w2 hp
  obtain rfl := hp.ans
  have HP := hide hp
  clear hp
  go_wp2_with fail
  go_ret
  exact HP.out.after HBB.out
set_option maxHeartbeats 8000000 in
theorem play2_f (lab : Nat → Nat) (B : Nat) (T : Tab) (n lsn k tx prev z4 z5 z6 z7 z8 z9 z10 z11 z12 z13 nx pnx : Int) (la da pla pda : Option Addr) (lc dc plc pdc : Nat) (L PL : List Lv) (D PD : List (Int × Int)) (w : World) (h : Tb lab w B T) (he : ∀ j, j < 2 → T.rp j = T.rq j) (ha : Arg B w n tx la da pla pda lc dc plc pdc L PL D PD) (_hm : T.ls.length + 2 ≤ 100000) :
    Calls Try.prog 21 #[ptr T.t, .agg (List.toArray [.int .i64 2, .bool false, .int .i64 n, .int .i64 lsn, .int .i64 k, .int .i64 tx, .int .i64 prev, .int .i64 z4, .int .i64 z5, .int .i64 z6, .int .i64 z7, .int .i64 z8, .int .i64 z9, .int .i64 z10, .int .i64 z11, .int .i64 z12, .int .i64 z13, .slice la L.length lc, .slice da D.length dc, .int .i64 nx, .slice pla PL.length plc, .slice pda PD.length pdc, .int .i64 pnx])] w (TPost 2 w B T) := by
  have HBS := hide (show B ≤ w.heap.size by have := h.low.1; have := h.box.1; omega)
  have HQ := hide he
  have HT0 := hide h
  have HA := hide ha
  clear h he ha
  go_enter Try.func21, Try.ntmps21
  go_upto_region 1 with fail
  refine named (P := Code.wp _ _ _ _) ?_
  intro w1 hw1
  obtain ⟨bx, hbx⟩ : ∃ b, b = w.heap.size := ⟨_, rfl⟩
  have HX := hide (show Cells w1 bx [.int .i64 2, .bool false, .int .i64 n, .int .i64 lsn, .int .i64 k, .int .i64 tx, .int .i64 prev, .int .i64 z4, .int .i64 z5, .int .i64 z6, .int .i64 z7, .int .i64 z8, .int .i64 z9, .int .i64 z10, .int .i64 z11, .int .i64 z12, .int .i64 z13, .slice la L.length lc, .slice da D.length dc, .int .i64 nx, .slice pla PL.length plc, .slice pda PD.length pdc, .int .i64 pnx] by rw [hw1, hbx]; exact Cells.new w _ _)
  have HB := hide (show Below w.heap.size w w1 by rw [hw1]; exact alloc_below _ _)
  have HBB := hide (HB.out.mono HBS.out)
  have HT := hide (HT0.out.below HB.out)
  rw [← hbx]
  clear hw1 hbx HT0
  obtain ⟨v0, -⟩ := HX.out.get 0 _ rfl
  obtain ⟨v1, -⟩ := HX.out.get 1 _ rfl
  obtain ⟨v2, -⟩ := HX.out.get 2 _ rfl
  obtain ⟨v20, -⟩ := HX.out.get 20 _ rfl
  obtain ⟨v21, -⟩ := HX.out.get 21 _ rfl
  obtain ⟨v22, -⟩ := HX.out.get 22 _ rfl
  have KL : Calls Try.prog 34 #[ptr T.t, .int .i64 0, .agg #[.slice pla PL.length plc, .slice pda PD.length pdc, .int .i64 pnx]] w1 _ := loads_any lab B T 0 pla pda plc pdc pnx PL PD w1 HT.out (by omega) HQ.out (HA.out.pl _ HBB.out) (HA.out.pd _ HBB.out) HA.out.npl HA.out.npd HA.out.cl HA.out.cd
  go_wp2_with fail
  refine KL.mono ?_
  intro e w2 hp
  obtain rfl := hp.ans
  have HP := hide hp
  clear hp
  go_wp2_with fail
  go_ret
  exact (HP.out.after HBB.out).more
set_option maxHeartbeats 8000000 in
theorem play6_f (lab : Nat → Nat) (B : Nat) (T : Tab) (n lsn k tx prev z4 z5 z6 z7 z8 z9 z10 z11 z12 z13 nx pnx : Int) (la da pla pda : Option Addr) (lc dc plc pdc : Nat) (L PL : List Lv) (D PD : List (Int × Int)) (w : World) (h : Tb lab w B T) (he : ∀ j, j < 2 → T.rp j = T.rq j) (ha : Arg B w n tx la da pla pda lc dc plc pdc L PL D PD) (_hm : T.ls.length + 2 ≤ 100000) :
    Calls Try.prog 21 #[ptr T.t, .agg (List.toArray [.int .i64 6, .bool false, .int .i64 n, .int .i64 lsn, .int .i64 k, .int .i64 tx, .int .i64 prev, .int .i64 z4, .int .i64 z5, .int .i64 z6, .int .i64 z7, .int .i64 z8, .int .i64 z9, .int .i64 z10, .int .i64 z11, .int .i64 z12, .int .i64 z13, .slice la L.length lc, .slice da D.length dc, .int .i64 nx, .slice pla PL.length plc, .slice pda PD.length pdc, .int .i64 pnx])] w (TPost 2 w B T) := by
  have HBS := hide (show B ≤ w.heap.size by have := h.low.1; have := h.box.1; omega)
  have HQ := hide he
  have HT0 := hide h
  have HA := hide ha
  clear h he ha
  go_enter Try.func21, Try.ntmps21
  go_upto_region 1 with fail
  refine named (P := Code.wp _ _ _ _) ?_
  intro w1 hw1
  obtain ⟨bx, hbx⟩ : ∃ b, b = w.heap.size := ⟨_, rfl⟩
  have HX := hide (show Cells w1 bx [.int .i64 6, .bool false, .int .i64 n, .int .i64 lsn, .int .i64 k, .int .i64 tx, .int .i64 prev, .int .i64 z4, .int .i64 z5, .int .i64 z6, .int .i64 z7, .int .i64 z8, .int .i64 z9, .int .i64 z10, .int .i64 z11, .int .i64 z12, .int .i64 z13, .slice la L.length lc, .slice da D.length dc, .int .i64 nx, .slice pla PL.length plc, .slice pda PD.length pdc, .int .i64 pnx] by rw [hw1, hbx]; exact Cells.new w _ _)
  have HB := hide (show Below w.heap.size w w1 by rw [hw1]; exact alloc_below _ _)
  have HBB := hide (HB.out.mono HBS.out)
  have HT := hide (HT0.out.below HB.out)
  rw [← hbx]
  clear hw1 hbx HT0
  obtain ⟨v0, -⟩ := HX.out.get 0 _ rfl
  obtain ⟨v1, -⟩ := HX.out.get 1 _ rfl
  obtain ⟨v2, -⟩ := HX.out.get 2 _ rfl
  have HC := hide (show ∀ j v, (#[.int .i64 lsn, .int .i64 k, .int .i64 tx, .int .i64 prev, .int .i64 z4, .int .i64 z5, .int .i64 z6, .int .i64 z7, .int .i64 z8, .int .i64 z9, .int .i64 z10, .int .i64 z11, .int .i64 z12, .int .i64 z13, .slice la L.length lc, .slice da D.length dc, .int .i64 nx] : Array Value).toList[j]? = some v → w1.cell? ⟨bx, 3 + j, none⟩ = some v from fun j v hv => (HX.out.get (3 + j) v (by rw [Nat.add_comm]; simpa using (List.getElem?_append_left (l₂ := [.slice pla PL.length plc, .slice pda PD.length pdc, .int .i64 pnx]) (by exact (List.getElem?_eq_some_iff.1 hv).1)).trans hv)).1)
  have KL : Calls Try.prog 38 #[ptr T.t, .int .i64 0, .agg #[.int .i64 lsn, .int .i64 k, .int .i64 tx, .int .i64 prev, .int .i64 z4, .int .i64 z5, .int .i64 z6, .int .i64 z7, .int .i64 z8, .int .i64 z9, .int .i64 z10, .int .i64 z11, .int .i64 z12, .int .i64 z13, .slice la L.length lc, .slice da D.length dc, .int .i64 nx]] w1 _ := notes_any lab B T 0 lsn k tx prev z4 z5 z6 z7 z8 z9 z10 z11 z12 z13 la da lc dc nx L D w1 HT.out (by omega) HQ.out HA.out.t64 (fun w' h => HA.out.l _ (HBB.out.trans h)) (fun w' h => HA.out.d _ (HBB.out.trans h)) HA.out.nl HA.out.nd
  go_wp2_with (refine wpList_ldAt HC.out rfl rfl ?_)
  refine KL.mono ?_
  intro e w2 hp
  obtain rfl := hp.ans
  have HP := hide hp
  clear hp
  go_wp2_with fail
  go_ret
  exact (HP.out.after HBB.out).more
set_option maxHeartbeats 8000000 in
theorem play0_f (lab : Nat → Nat) (B : Nat) (T : Tab) (n lsn k tx prev z4 z5 z6 z7 z8 z9 z10 z11 z12 z13 nx pnx kind : Int) (la da pla pda : Option Addr) (lc dc plc pdc : Nat) (L PL : List Lv) (D PD : List (Int × Int)) (w : World) (h : Tb lab w B T) (he : ∀ j, j < 2 → T.rp j = T.rq j) (ha : Arg B w n tx la da pla pda lc dc plc pdc L PL D PD) (_hm : T.ls.length + 2 ≤ 100000) (hk : kind ≠ 1 ∧ kind ≠ 2 ∧ kind ≠ 3 ∧ kind ≠ 4 ∧ kind ≠ 5 ∧ kind ≠ 6) :
    Calls Try.prog 21 #[ptr T.t, .agg (List.toArray [.int .i64 kind, .bool false, .int .i64 n, .int .i64 lsn, .int .i64 k, .int .i64 tx, .int .i64 prev, .int .i64 z4, .int .i64 z5, .int .i64 z6, .int .i64 z7, .int .i64 z8, .int .i64 z9, .int .i64 z10, .int .i64 z11, .int .i64 z12, .int .i64 z13, .slice la L.length lc, .slice da D.length dc, .int .i64 nx, .slice pla PL.length plc, .slice pda PD.length pdc, .int .i64 pnx])] w (TPost 2 w B T) := by
  have HBS := hide (show B ≤ w.heap.size by have := h.low.1; have := h.box.1; omega)
  have HQ := hide he
  have HT0 := hide h
  have HA := hide ha
  clear h he ha
  go_enter Try.func21, Try.ntmps21
  go_upto_region 1 with fail
  refine named (P := Code.wp _ _ _ _) ?_
  intro w1 hw1
  obtain ⟨bx, hbx⟩ : ∃ b, b = w.heap.size := ⟨_, rfl⟩
  have HX := hide (show Cells w1 bx [.int .i64 kind, .bool false, .int .i64 n, .int .i64 lsn, .int .i64 k, .int .i64 tx, .int .i64 prev, .int .i64 z4, .int .i64 z5, .int .i64 z6, .int .i64 z7, .int .i64 z8, .int .i64 z9, .int .i64 z10, .int .i64 z11, .int .i64 z12, .int .i64 z13, .slice la L.length lc, .slice da D.length dc, .int .i64 nx, .slice pla PL.length plc, .slice pda PD.length pdc, .int .i64 pnx] by rw [hw1, hbx]; exact Cells.new w _ _)
  have HB := hide (show Below w.heap.size w w1 by rw [hw1]; exact alloc_below _ _)
  have HBB := hide (HB.out.mono HBS.out)
  have HT := hide (HT0.out.below HB.out)
  rw [← hbx]
  clear hw1 hbx HT0
  obtain ⟨v0, -⟩ := HX.out.get 0 _ rfl
  obtain ⟨v1, -⟩ := HX.out.get 1 _ rfl
  obtain ⟨v2, -⟩ := HX.out.get 2 _ rfl
  have k1 : (kind == 1) = false := by simpa using hk.1
  have k2 : (kind == 2) = false := by simpa using hk.2.1
  have k3 : (kind == 3) = false := by simpa using hk.2.2.1
  have k4 : (kind == 4) = false := by simpa using hk.2.2.2.1
  have k5 : (kind == 5) = false := by simpa using hk.2.2.2.2.1
  have k6 : (kind == 6) = false := by simpa using hk.2.2.2.2.2
  go_wp2_with fail
  go_ret
  exact ⟨rfl, lab, T, HT.out, HQ.out, rfl, HBB.out, by omega⟩
end Go.Proofs.Ytokcocmenndlmaa
