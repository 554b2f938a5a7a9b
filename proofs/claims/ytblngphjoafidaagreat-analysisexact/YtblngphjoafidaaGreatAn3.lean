import Derived.Test.YtblngphjoafidaaGreatAn2
import Derived.Test.YtblngphjoafidaaGreatChk3
import Derived.Test.YtblngphjoafidaaGreatBig
import Derived.Test.YtblngphjoafidaaGreatTx2
namespace Go.Proofs.YtblngphjoafidaaGreat
open Go.RowKit Go.QK Go.Maps Go.QM Go.QT
set_option maxRecDepth 100000
theorem run_loadAt (w : World) (b off : Nat) (ty : TypeId) (cs : Array Value) (d : TypeDesc) (hc : ∀ j v, cs.toList[j]? = some v → w.cell? ⟨b, off + j, none⟩ = some v) (hu : Tryz.prog.underlying ty = some d) (hd : (match d with | .struct _ | .array _ _ => true | _ => false) = true) (hi : (Tryz.prog.info? ty).map (·.size) = some cs.size) :
    (loadVar ty ⟨b, off, none⟩).run Tryz.prog w = .ok (.agg cs) w := by
  have hl : (loadCells ⟨b, off, none⟩ cs.toList.length).run Tryz.prog w = .ok cs.toList.toArray w :=
    run_loadCells_list (P := Tryz.prog) w ⟨b, off, none⟩ cs.toList (fun j v hv => by
      rw [addr_add]
      exact hc j v hv)
  cases hq : Tryz.prog.info? ty with
  | none => simp [hq] at hi
  | some i =>
    have hs : i.size = cs.size := by simpa [hq] using hi
    have hagg : (isAgg ty).run Tryz.prog w = .ok true w := by
      unfold isAgg
      rw [Sem.run_bind, run_underlying hu w]
      cases d <;> simp_all
    simp only [Array.length_toList, Array.toArray_toList] at hl
    simp [loadVar, Sem.run_bind, hagg, sizeOf, typeInfo, hq, hs, hl]
theorem exec_load46 {o : Oper} {ev : Operand → Value} {x : Operand} {b off : Nat} {cs : Array Value} {w : World} (ho : o.op = .load 55 x) (hx : ev x = .pointer (some ⟨b, off, none⟩)) (hc : ∀ j v, cs.toList[j]? = some v → w.cell? ⟨b, off + j, none⟩ = some v) (hs : cs.size = 17) : (execOp ev o).run Tryz.prog w = .ok (.value (.agg cs)) w := by
  have h := run_loadAt w b off 55 cs _ hc Tryz.underlying55 rfl (size36' hs)
  unfold execOp
  simp only [ho, hx, Instr.loadAt, Instr.sureAddr, Sem.run_bind, Sem.run_pure, Result.andThen_ok, h]
theorem rb_at {w : World} {b : Nat} {t : TypeId} {cs : Array Value} (h : RBox w b t cs) : ∀ j v, cs.toList[j]? = some v → w.cell? ⟨b, 0 + j, none⟩ = some v := fun j v hv => by
  rw [Nat.zero_add]
  exact (h.cells.get j v hv).1
section
variable {ops : Array Oper} {rest : List Oper} {a : Act} {w : World} {Q : Exit → Act → World → Prop} {d : Option Tmp} {ty : TypeId} {ps : String} {af : Array Edge} {x : Operand}
theorem wpList_ld46At {b off : Nat} {cs : Array Value} (hc : ∀ j v, cs.toList[j]? = some v → w.cell? ⟨b, off + j, none⟩ = some v) (hs : cs.size = 17) (hx : a.eval x = .pointer (some ⟨b, off, none⟩)) (h : wpList Tryz.prog ops Q rest (a.put d (.agg cs)) w) :
    wpList Tryz.prog ops Q ({ dst := d, op := .load 55 x, type := ty, pos := ps, after := af, guard := none } :: rest) a w := by
  have hrun := run_loadAt w b off 55 cs _ hc Tryz.underlying55 rfl (size36' hs)
  refine wpList_plain rfl fun K hK => ?_
  unfold Oper.wp execOp
  simp only [hx, Instr.loadAt, Instr.sureAddr, Sem.run_bind, Sem.run_pure, Result.andThen_ok, hrun]
  exact hK _ _ h
end
/-! Records in memory: a row of them, each with its lists. -/
structure RX where
  r : RecM
  la : Option Addr
  lc : Nat
  da : Option Addr
  dc : Nat
abbrev rxA (x : RX) : Array Value := recC x.r x.la x.lc x.da x.dc
def rxC (x : RX) : List Value := (rxA x).toList
structure RXIn (w : World) (x : RX) : Prop where
  li : Lies w x.la (liveCs x.r.live)
  di : Lies w x.da (dirtyCs x.r.dirty)
  tx : I64 x.r.tx
theorem RXIn.below {w w' : World} {x : RX} (h : RXIn w x) (hb : Below w.heap.size w w') : RXIn w' x := ⟨h.li.below hb, h.di.below hb, h.tx⟩
structure RecsAt (w : World) (a : Option Addr) (xs : List RX) : Prop where
  row : Lies w a (rowsC rxC xs)
  each : ∀ x ∈ xs, RXIn w x
theorem RecsAt.below {w w' : World} {a : Option Addr} {xs : List RX} (h : RecsAt w a xs) (hb : Below w.heap.size w w') : RecsAt w' a xs := ⟨h.row.below hb, fun x hx => (h.each x hx).below hb⟩
theorem rxA_one (x : RX) : (rxA x).toList.all (·.oneCell') = true := rfl
theorem rxA_size (x : RX) : (rxA x).size = 17 := rfl
abbrev rsOf (xs : List RX) : List RecM := xs.map (·.r)
theorem recA_of (x : RX) (h : I64 x.r.tx) : RecA (rxA x) x.r.lsn x.r.kind x.r.tx x.r.prev := ⟨rfl, rfl, rfl, rfl, rfl, h⟩
abbrev rec0 : Array Value := #[.int .i64 0, .int .i64 0, .int .i64 0, .int .i64 0, .int .i64 0, .int .i64 0, .int .i64 0, .int .i64 0, .int .i64 0, .int .i64 0, .int .i64 0, .int .i64 0, .int .i64 0, .int .i64 0, .slice none 0 0, .slice none 0 0, .int .i64 0]
theorem fault_drop {n : Int} {rs : List RecM} {k : Nat} (hk : k < rs.length) : faultE n (rs.drop k) = if rs[k].lsn = n then (if chkE rs[k] = 0 then faultE (n + 1) (rs.drop (k + 1)) else (chkE rs[k] : Int)) else 60 := by
  rw [List.drop_eq_getElem_cons hk]
  rfl
set_option maxHeartbeats 2000000 in
theorem faultOf_any (xs : List RX) (a : Option Addr) (c : Nat) (w : World) (h : RecsAt w a xs) (hn : xs.length ≤ 1000000) :
    Calls Tryz.prog 15 #[.slice a xs.length c] w fun e w' => e = .returned (.int .i64 (faultE 1 (rsOf xs))) ∧ Below w.heap.size w w' := by
  obtain ⟨N, hN⟩ : ∃ N, N = xs.length := ⟨_, rfl⟩
  have HL := hide (show (rsOf xs).length = N by simp [hN])
  rw [← hN] at hn ⊢
  have HN := hide hN
  have HX := hide h
  clear h hN
  obtain ⟨T, HT⟩ : ∃ T, Hid (T = faultE 1 (rsOf xs)) := ⟨_, hide rfl⟩
  rw [← HT.out]
  go_enter Tryz.func15, Tryz.ntmps15
  go_wp2_with fail
  go_loopw [8] (fun i wr => ∃ (k : Nat), i = .int .i64 (k : Int) ∧ k ≤ N ∧ T = faultE ((k : Int) + 1) ((rsOf xs).drop k) ∧ Below w.heap.size w wr) (fun i _ => (N + 1 - (intOf i).toNat))
  case atStart => exact ⟨0, rfl, by omega, HT.out, Below.refl _ _⟩
  case round =>
    obtain ⟨k, rfl, hk, ht, hb⟩ := hrel
    have B0 := hide hb
    by_cases hlt : k < N
    · have e1 : decide ((k : Int) < (N : Int)) = true := by simp; omega
      have hlx : k < xs.length := by rw [← HN.out]; exact hlt
      rw [fault_drop (by rw [HL.out]; exact hlt)] at ht
      have HX1 := hide ((HX.out.below hb).each xs[k] (List.getElem_mem hlx))
      obtain ⟨sb, so, rfl, slt, sel⟩ := Lies.rowAt rxC 17 (fun _ => rfl) (HX.out.below hb).row k hlx (by decide)
      simp only [rsOf, List.getElem_map] at ht
      have H2 := hide ht
      clear ht hb
      generalize xs[k] = x at *
      obtain ⟨RA, hRA⟩ : ∃ A, A = rxA x := ⟨_, rfl⟩
      have SR := hide (show RA.size = 17 by rw [hRA]; rfl)
      have ON := hide (show RA.toList.all (·.oneCell') = true by rw [hRA]; rfl)
      have RC := hide (show ∀ j v, RA.toList[j]? = some v → wr.cell? ⟨sb, so + k * 17 + j, none⟩ = some v from fun j v hv => by rw [hRA] at hv; exact sel j v hv)
      have H0 := hide (show RA.toList[0]? = some (.int .i64 x.r.lsn) by rw [hRA]; rfl)
      have KC := hide (fun w' (hq : Below wr.heap.size wr w') => check_any x.r x.la x.da x.lc x.dc w' (HX1.out.below hq).li (HX1.out.below hq).di)
      have KC := hide (show ∀ w', Below wr.heap.size wr w' → Calls Tryz.prog 27 #[.agg RA] w' fun e w'' => e = .returned (.int .i64 ((chkE x.r : Nat) : Int)) ∧ Below w'.heap.size w' w'' by rw [hRA]; exact KC.out)
      clear hRA sel HX1
      generalize x.r.lsn = L at *
      generalize chkE x.r = E at *
      go_upto_region 4 with (first | refine wpList_ld46At RC.out SR.out rfl ?_ | (refine wpList_store36 (cs := rec0) (RBox.new _ _ _) rfl SR.out ON.out rfl rfl ?_; intro w2 hb2 hk2))
      have B2 := hide (show Below wr.heap.size wr w2 from newBox hk2)
      obtain ⟨c0, -⟩ := hb2.cells.get 0 _ H0.out
      have R2 := hide hb2
      have B3 := hide (B0.out.trans (B2.out.mono B0.out.size))
      have ew : IntKind.i64.wrap ((k : Int) + 1) = (k : Int) + 1 := by rw [IntKind.wrap_i64]; omega
      clear hb2 hk2
      by_cases hL : L = (k : Int) + 1
      · have e2 : (L != (k : Int) + 1) = false := by simpa using hL
        have H3 := hide (show T = if E = 0 then faultE ((k : Int) + 1 + 1) ((rsOf xs).drop (k + 1)) else (E : Int) by rw [H2.out, if_pos hL])
        clear H2 hL
        go_upto_region 7 with (first | refine wpList_load36 R2.out SR.out rfl ?_ | (refine (KC.out _ B2.out).mono ?_; rintro e w3 ⟨rfl, hb3⟩))
        have B4 := hide (B3.out.trans (hb3.mono B3.out.size))
        clear hb3 B2 B3 R2 c0
        by_cases hE : E = 0
        · have e3 : ((E : Int) != 0) = false := by simp; omega
          have H4 := hide (show T = faultE ((k : Int) + 1 + 1) ((rsOf xs).drop (k + 1)) by rw [H3.out, if_pos hE])
          clear hE
          go_wp2_with fail
          go_roundw
          case rel => exact ⟨k + 1, by go_num, by omega, by rw [H4.out]; rfl, B4.out⟩
          case measure => simp [intOf]; omega
        · have e3 : ((E : Int) != 0) = true := by simp; omega
          have H4 := hide (show T = (E : Int) by rw [H3.out, if_neg hE])
          clear hE
          go_wp2_with fail
          go_ret
          exact ⟨by rw [H4.out]; rfl, B4.out⟩
      · have e2 : (L != (k : Int) + 1) = true := by simpa using hL
        have H3 := hide (show T = 60 by rw [H2.out, if_neg hL])
        clear H2 hL
        go_wp2_with fail
        go_ret
        exact ⟨by rw [H3.out]; rfl, B3.out⟩
    · obtain rfl : k = N := by omega
      have H3 := hide (show T = 0 by rw [ht, List.drop_eq_nil_of_le (by rw [HL.out]; omega)]; rfl)
      clear ht
      go_wp2_with fail
      go_ret
      exact ⟨by rw [H3.out]; rfl, B0.out⟩
end Go.Proofs.YtblngphjoafidaaGreat
