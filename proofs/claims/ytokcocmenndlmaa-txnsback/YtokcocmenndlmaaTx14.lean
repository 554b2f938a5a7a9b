import Derived.Test.YtokcocmenndlmaaTx12c
namespace Go.Proofs.Ytokcocmenndlmaa
open Go.RowKit Go.QK Go.Maps Go.QM Go.QT
set_option maxRecDepth 100000
theorem run_loadAt (w : World) (b off : Nat) (ty : TypeId) (cs : Array Value) (d : TypeDesc) (hc : ∀ j v, cs.toList[j]? = some v → w.cell? ⟨b, off + j, none⟩ = some v) (hu : Try.prog.underlying ty = some d) (hd : (match d with | .struct _ | .array _ _ => true | _ => false) = true) (hi : (Try.prog.info? ty).map (·.size) = some cs.size) :
    (loadVar ty ⟨b, off, none⟩).run Try.prog w = .ok (.agg cs) w := by
  have hl : (loadCells ⟨b, off, none⟩ cs.toList.length).run Try.prog w = .ok cs.toList.toArray w :=
    run_loadCells_list (P := Try.prog) w ⟨b, off, none⟩ cs.toList (fun j v hv => by
      rw [addr_add]
      exact hc j v hv)
  cases hq : Try.prog.info? ty with
  | none => simp [hq] at hi
  | some i =>
    have hs : i.size = cs.size := by simpa [hq] using hi
    have hagg : (isAgg ty).run Try.prog w = .ok true w := by
      unfold isAgg
      rw [Sem.run_bind, run_underlying hu w]
      cases d <;> simp_all
    simp only [Array.length_toList, Array.toArray_toList] at hl
    simp [loadVar, Sem.run_bind, hagg, sizeOf, typeInfo, hq, hs, hl]
theorem exec_load51 {o : Oper} {ev : Operand → Value} {x : Operand} {b off : Nat} {cs : Array Value} {w : World} (ho : o.op = .load 51 x) (hx : ev x = .pointer (some ⟨b, off, none⟩)) (hc : ∀ j v, cs.toList[j]? = some v → w.cell? ⟨b, off + j, none⟩ = some v) (hs : cs.size = 17) : (execOp ev o).run Try.prog w = .ok (.value (.agg cs)) w := by
  have h := run_loadAt w b off 51 cs _ hc Try.underlying51 rfl (size51' hs)
  unfold execOp
  simp only [ho, hx, Instr.loadAt, Instr.sureAddr, Sem.run_bind, Sem.run_pure, Result.andThen_ok, h]
/-- Two tables that tell the same, and what lies beside them. -/
structure Bk (w wr : World) (b m u n : Nat) (t : TbM) (ob pb : Nat) (odd : Lv) (vp : List Value) : Prop where
  p1 : PT wr b m t
  p2 : PT wr u n t
  co : Cells wr ob (lvC odd)
  cp : Cells wr pb vp
  be : Below w.heap.size w wr
  ne : b ≠ u ∧ b ≠ n ∧ m ≠ u ∧ m ≠ n
  nb : ob ≠ b ∧ ob ≠ m ∧ ob ≠ u ∧ ob ≠ n ∧ pb ≠ b ∧ pb ≠ m ∧ pb ≠ u ∧ pb ≠ n
  lo : w.heap.size ≤ b ∧ w.heap.size ≤ m ∧ w.heap.size ≤ u ∧ w.heap.size ≤ n
theorem Bk.below {w wr w' : World} {b m u n : Nat} {t : TbM} {ob pb : Nat} {odd : Lv} {vp : List Value} (h : Bk w wr b m u n t ob pb odd vp) (hb : Below wr.heap.size wr w') : Bk w w' b m u n t ob pb odd vp :=
  ⟨h.p1.below hb, h.p2.below hb, h.co.below hb, h.cp.below hb, h.be.trans (hb.mono h.be.size), h.ne, h.nb, h.lo⟩
/-- The first has gone on. -/
theorem Bk.first {w wr w' : World} {b m u n : Nat} {t t' : TbM} {ob pb : Nat} {odd : Lv} {vp : List Value} (h : Bk w wr b m u n t ob pb odd vp) (hp : PT w' b m t') (hk : Keep (fun z => z = b ∨ z = m) wr w') : PT w' b m t' ∧ PT w' u n t ∧ Cells w' ob (lvC odd) ∧ Cells w' pb vp ∧ Below w.heap.size w w' := by
  have := h.ne
  have := h.nb
  have := h.lo
  exact ⟨hp, h.p2.keep hk (by omega) (by omega), h.co.keep hk (by omega), h.cp.keep hk (by omega), h.be.trans (hk.below h.be.size (fun z hz q => by omega))⟩
/-- And the second after it. -/
theorem Bk.second {w wr w1 w2 : World} {b m u n : Nat} {t t' : TbM} {ob pb : Nat} {odd : Lv} {vp : List Value} (h : Bk w wr b m u n t ob pb odd vp) (h1 : PT w1 b m t' ∧ PT w1 u n t ∧ Cells w1 ob (lvC odd) ∧ Cells w1 pb vp ∧ Below w.heap.size w w1) (hp : PT w2 u n t') (hk : Keep (fun z => z = u ∨ z = n) w1 w2) : Bk w w2 b m u n t' ob pb odd vp := by
  have := h.ne
  have := h.nb
  have := h.lo
  exact ⟨h1.1.keep hk (by omega) (by omega), hp, h1.2.2.1.keep hk (by omega), h1.2.2.2.1.keep hk (by omega), h1.2.2.2.2.trans (hk.below h1.2.2.2.2.size (fun z hz q => by omega)), h.ne, h.nb, h.lo⟩
set_option maxHeartbeats 16000000 in
theorem law_back (ms : List (Int × Int)) (rs : List RecN) (odd : Lv) (ma ra : Option Addr) (mc rc : Nat) (da : Option Addr) (dn dc : Nat) (w : World) (hms : Lies w ma (rowsC m2 ms)) (hrs : Lies w ra (rowsC recL rs)) (hri : ∀ r ∈ rs, I64 r.tx) :
    Calls Try.prog 3 #[.slice ma ms.length mc, .slice ra rs.length rc, .slice da dn dc, lvV odd] w fun e w' => e = .returned (.bool true) ∧ Below w.heap.size w w' := by
  have KN : ∀ w, Calls Try.prog 6 #[.int .i64 1] w _ := fun w => new_yes 1 w rfl
  have HMS := hide hms
  have HRS := hide hrs
  have HRI := hide hri
  clear hms hrs hri
  obtain ⟨o1, o2, o3, o4⟩ := odd
  unfold lvV
  go_enter Try.func3, Try.ntmps3
  go_upto_region 1 with fail
  refine named (P := Code.wp _ _ _ _) ?_
  intro w0 hw0
  obtain ⟨ob, hob⟩ : ∃ ob, ob = w.heap.size := ⟨_, rfl⟩
  have CO0 := hide (show Cells w0 ob (lvC ⟨o1, o2, o3, o4⟩) by rw [hw0, hob]; exact Cells.new _ _ _)
  have B0 := hide (show Below w.heap.size w w0 by rw [hw0]; exact alloc_below _ _)
  rw [← hob]
  clear hw0 hob
  go_wp2_with fail
  refine (KN _).mono ?_
  rintro e w1 ⟨rfl, P1, B1, -⟩
  obtain ⟨b, hb⟩ : ∃ b, b = w0.heap.size + 1 := ⟨_, rfl⟩
  obtain ⟨m, hm⟩ : ∃ m, m = w0.heap.size := ⟨_, rfl⟩
  have HP1 := hide (show PT w1 b m t1 by rw [hb, hm]; exact P1)
  have LO := hide (show w.heap.size ≤ b ∧ w.heap.size ≤ m ∧ ob < b ∧ ob < m by have := B0.out.size; have := CO0.out.1; omega)
  have HB1 := hide (B0.out.trans (B1.mono B0.out.size))
  have CO1 := hide (CO0.out.below B1)
  rw [← hb]
  clear P1 B1 hb hm KN B0 CO0
  have e1 := fun w => (ptr_nil b 27 (.inl rfl) w).1
  go_upto_region 3 with fail
  go_wp2_with (first | (go_at_call 7; refine (num_eq _ _).mono ?_; rintro e wz ⟨rfl, rfl⟩) | (go_at_call 8; refine (awake_any _).mono ?_; rintro e w2 ⟨rfl, hh⟩; have HP2 := hide (HP1.out.below hh); have HB2 := hide (HB1.out.trans (hh.mono HB1.out.size)); have CO2 := hide (CO1.out.below hh); clear hh HP1 HB1 CO1))
  clear e1
  go_loopw [11] (fun vi wr => ∃ (k : Nat) (t : TbM), vi = .int .i64 (k : Int) ∧ k ≤ ms.length ∧ k ≤ 60 ∧ PT wr b m t ∧ Cells wr ob (lvC ⟨o1, o2, o3, o4⟩) ∧ Below w.heap.size w wr) (fun vi _ => 60 - (intOf vi).toNat)
  case atStart => exact ⟨0, t1, rfl, Nat.zero_le _, by omega, HP2.out, CO2.out, HB2.out⟩
  case round =>
    obtain ⟨k, t, rfl, hk1, hk2, hP, hC, hB⟩ := hrel
    have PT3 := hide hP
    have CO3 := hide hC
    have B3 := hide hB
    clear hP hC hB HP2 CO2 HB2
    go_upto_region 5 with fail
    go_cut [48] from 41 to 48 (fun v w' => ∃ q : Bool, v = .bool q ∧ (q = true → k < ms.length ∧ k < 60) ∧ wr = w')
    case first =>
      by_cases hlt : k < ms.length
      · have hk4 : decide ((k : Int) < (ms.length : Int)) = true := by simp; omega
        by_cases hlt2 : k < 60
        · have hk3 : decide ((k : Int) < 60) = true := by simp; omega
          go_wp2_with fail
          go_meet
          exact ⟨true, rfl, fun _ => ⟨hlt, hlt2⟩, rfl⟩
        · have hk3 : decide ((k : Int) < 60) = false := by simp; omega
          go_wp2_with fail
          go_meet
          exact ⟨false, rfl, (fun q => by cases q), rfl⟩
      · have hk4 : decide ((k : Int) < (ms.length : Int)) = false := by simp; omega
        go_wp2_with fail
        go_meet
        exact ⟨false, rfl, (fun q => by cases q), rfl⟩
    case rest =>
      obtain ⟨q, rfl, hq, rfl⟩ := hcut
      have HQ0 := hide hq
      clear hq
      cases q
      · clear HQ0 hk1 hk2
        as_aux_lemma =>
          have KL := live_any b m t wr PT3.out
          go_wp2_with fail
          refine KL.mono ?_
          rintro e w4 ⟨v, rfl, hrow, hnb, hh⟩
          obtain ⟨g, gc, rfl, -, -, hl1⟩ := row_form hrow hnb
          have RL := hide hl1
          have P4 := hide (PT3.out.below hh)
          have C4 := hide (CO3.out.below hh)
          have B4 := hide (B3.out.trans (hh.mono B3.out.size))
          clear hrow hnb hh hl1 PT3 CO3 B3 KL
          have KX := next_any b m t w4 P4.out
          have HOK := hide P4.out.ok
          have few := P4.out.ok.few
          have NXO := hide (show isNext t.next = true by have h1 := P4.out.ok.n1; have h2 := P4.out.ok.n2; unfold isNext; simp [h1, h2])
          go_upto_region 13 with (go_at_call 13; refine KX.mono ?_; rintro e wz ⟨rfl, rfl⟩)
          refine named (P := Code.wp _ _ _ _) ?_
          intro w5 hw5
          obtain ⟨pb, hpb⟩ : ∃ pb, pb = w4.heap.size := ⟨_, rfl⟩
          have CP := hide (show Cells w5 pb [.slice (some ⟨g, 0, none⟩) t.L.length gc, .slice da dn dc, .int .i64 t.next] by rw [hw5, hpb]; exact Cells.new _ _ _)
          have P5 := hide (show PT w5 b m t by rw [hw5]; exact P4.out.below (alloc_below _ _))
          have C5 := hide (show Cells w5 ob (lvC (⟨o1, o2, o3, o4⟩ : Lv)) by rw [hw5]; exact C4.out.below (alloc_below _ _))
          have B5 := hide (show Below w.heap.size w w5 by rw [hw5]; exact B4.out.alloc B4.out.size _)
          have R5 := hide (show Lies w5 (some ⟨g, 0, none⟩) (rowsC lvC t.L) by rw [hw5]; exact RL.out.below (alloc_below _ _))
          have PN := hide (show pb ≠ b ∧ pb ≠ m ∧ pb < w5.heap.size by rw [hw5, hpb]; have := P4.out.lt; simp; omega)
          rw [← hpb]
          clear hw5 hpb P4 C4 B4 RL KX
          have KD := load_yes (some ⟨g, 0, none⟩) gc (.slice da dn dc) t.next t.L w5 R5.out (by omega) (loadOk_of HOK.out)
          obtain ⟨cp0, -⟩ := CP.out.get 0 _ rfl
          obtain ⟨cp1, -⟩ := CP.out.get 1 _ rfl
          obtain ⟨cp2, -⟩ := CP.out.get 2 _ rfl
          go_wp2_with fail
          refine KD.mono ?_
          rintro e w6 ⟨u, n, rfl, pu, lu, ln, hh⟩
          obtain ⟨nx0, hnx⟩ : ∃ nx0, nx0 = t.next := ⟨_, rfl⟩
          have BK := hide (show Bk w w6 b m u n t ob pb (⟨o1, o2, o3, o4⟩ : Lv) [.slice (some ⟨g, 0, none⟩) t.L.length gc, .slice da dn dc, .int .i64 nx0] from ⟨P5.out.below hh, pu, C5.out.below hh, by rw [hnx]; exact CP.out.below hh, B5.out.trans (hh.mono B5.out.size), by have := P5.out.lt; omega, by have := P5.out.lt; have := C5.out.1; have := LO.out; have := PN.out; omega, by have := LO.out; have := B5.out.size; omega⟩)
          have NX0 := hide (show isNext nx0 = true by rw [hnx]; exact NXO.out)
          generalize t.L.length = ln0 at BK
          clear pu lu ln hh hnx NXO HOK P5 C5 B5 R5 CP PN KD cp0 cp1 cp2 few
          have e1 := fun w => (ptr_nil u 27 (.inl rfl) w).1
          go_wp2_with (go_at_call 7; refine (num_eq _ _).mono ?_; rintro e wz ⟨rfl, rfl⟩)
          clear e1
          go_loopw [17] (fun vi wr => ∃ (k : Nat) (t : TbM), vi = .int .i64 (k : Int) ∧ k ≤ rs.length ∧ k ≤ 100 ∧ Bk w wr b m u n t ob pb (⟨o1, o2, o3, o4⟩ : Lv) [.slice (some ⟨g, 0, none⟩) ln0 gc, .slice da dn dc, .int .i64 nx0]) (fun vi _ => 100 - (intOf vi).toNat)
          case atStart => exact ⟨0, _, rfl, Nat.zero_le _, by omega, BK.out⟩
          case round =>
            obtain ⟨j, t2, rfl, hj1, hj2, hBk⟩ := hrel
            have BQ := hide hBk
            clear hBk BK
            go_upto_region 17 with fail
            go_cut [121] from 114 to 121 (fun v w' => ∃ q : Bool, v = .bool q ∧ (q = true → j < rs.length ∧ j < 100) ∧ wr = w')
            case first =>
              by_cases hlt : j < rs.length
              · have hk4 : decide ((j : Int) < (rs.length : Int)) = true := by simp; omega
                by_cases hlt2 : j < 100
                · have hk3 : decide ((j : Int) < 100) = true := by simp; omega
                  go_wp2_with fail
                  go_meet
                  exact ⟨true, rfl, fun _ => ⟨hlt, hlt2⟩, rfl⟩
                · have hk3 : decide ((j : Int) < 100) = false := by simp; omega
                  go_wp2_with fail
                  go_meet
                  exact ⟨false, rfl, (fun q => by cases q), rfl⟩
              · have hk4 : decide ((j : Int) < (rs.length : Int)) = false := by simp; omega
                go_wp2_with fail
                go_meet
                exact ⟨false, rfl, (fun q => by cases q), rfl⟩
            case rest =>
              obtain ⟨q, rfl, hq, rfl⟩ := hcut
              have HQ0 := hide hq
              clear hq
              cases q
              · clear HQ0 hj1 hj2
                as_aux_lemma =>
                  obtain ⟨c0, -⟩ := BQ.out.co.get 0 _ rfl
                  obtain ⟨c1, -⟩ := BQ.out.co.get 1 _ rfl
                  obtain ⟨c2, -⟩ := BQ.out.co.get 2 _ rfl
                  obtain ⟨c3, -⟩ := BQ.out.co.get 3 _ rfl
                  obtain ⟨pp2, -⟩ := BQ.out.cp.get 2 _ rfl
                  obtain ⟨R0, hR0⟩ : ∃ R0, R0 = loadOk [(⟨o1, o2, o3, o4⟩ : Lv)] nx0 := ⟨_, rfl⟩
                  have HRQ := hide hR0
                  clear hR0
                  go_upto_region 25 with fail
                  go_cut [22] (fun v w' => v = .bool (!R0) ∧ wr = w')
                  case first =>
                    as_aux_lemma =>
                      have hR0 := HRQ.out
                      unfold loadOk at hR0
                      rw [NX0.out] at hR0
                      simp only [okFrom, isLsn, List.length_cons, List.length_nil, Bool.true_and, Bool.and_true, show decide (0 + 1 ≤ 32) = true from rfl] at hR0
                      have HR0 := hide hR0
                      clear hR0
                      by_cases q1 : o1 < 1
                      · have d1 : decide (o1 < 1) = true := by simpa using q1
                        have HF := hide (show R0 = false by rw [HR0.out]; rw [show decide (0 < o1) = false by simp; omega]; simp)
                        clear HR0
                        go_wp2_with fail
                        go_meet
                        exact ⟨by rw [HF.out]; rfl, rfl⟩
                      · have d1 : decide (o1 < 1) = false := by simpa using q1
                        by_cases q2 : nx0 ≤ o1
                        · have d2 : decide (nx0 ≤ o1) = true := by simpa using q2
                          have HF := hide (show R0 = false by rw [HR0.out]; rw [show decide (o1 < nx0) = false by simp; omega]; simp)
                          clear HR0
                          go_wp2_with fail
                          go_meet
                          exact ⟨by rw [HF.out]; rfl, rfl⟩
                        · have d2 : decide (nx0 ≤ o1) = false := by simpa using q2
                          by_cases q3 : o2 < 1
                          · have d3 : decide (o2 < 1) = true := by simpa using q3
                            have HF := hide (show R0 = false by rw [HR0.out]; rw [show decide (1 ≤ o2) = false by simp; omega]; simp)
                            clear HR0
                            go_wp2_with fail
                            go_meet
                            exact ⟨by rw [HF.out]; rfl, rfl⟩
                          · have d3 : decide (o2 < 1) = false := by simpa using q3
                            by_cases q4 : 2147483647 < o2
                            · have d4 : decide (2147483647 < o2) = true := by simpa using q4
                              have HF := hide (show R0 = false by rw [HR0.out]; rw [show decide (o2 ≤ 2147483647) = false by simp; omega]; simp)
                              clear HR0
                              go_wp2_with fail
                              go_meet
                              exact ⟨by rw [HF.out]; rfl, rfl⟩
                            · have d4 : decide (2147483647 < o2) = false := by simpa using q4
                              cases o3
                              · have HF := hide (show R0 = true by rw [HR0.out]; rw [show decide (0 < o1) = true by simp; omega, show decide (o1 < nx0) = true by simp; omega, show decide (1 ≤ o2) = true by simp; omega, show decide (o2 ≤ 2147483647) = true by simp; omega]; simp)
                                clear HR0
                                go_wp2_with fail
                                go_meet
                                exact ⟨by rw [HF.out]; rfl, rfl⟩
                              · cases o4
                                · have HF := hide (show R0 = true by rw [HR0.out]; rw [show decide (0 < o1) = true by simp; omega, show decide (o1 < nx0) = true by simp; omega, show decide (1 ≤ o2) = true by simp; omega, show decide (o2 ≤ 2147483647) = true by simp; omega]; simp)
                                  clear HR0
                                  go_wp2_with fail
                                  go_meet
                                  exact ⟨by rw [HF.out]; rfl, rfl⟩
                                · have HF := hide (show R0 = false by rw [HR0.out]; simp)
                                  clear HR0
                                  go_wp2_with fail
                                  go_meet
                                  exact ⟨by rw [HF.out]; rfl, rfl⟩
                  case rest =>
                    as_aux_lemma =>
                      obtain ⟨rfl, rfl⟩ := hcut
                      have HBW := hide BQ.out.be
                      obtain ⟨pq2, -⟩ := (BQ.out.cp.below (alloc_below wr (.cells #[.int .i64 o1, .int .i64 o2, .bool o3, .bool o4] 26))).get 2 _ rfl
                      clear BQ pp2
                      have KY : loadOk [(⟨o1, o2, o3, o4⟩ : Lv)] nx0 = true → Calls Try.prog 14 #[.agg #[.slice (some ⟨wr.heap.size, 0, none⟩) 1 1, .slice none 0 0, .int .i64 nx0]] ((wr.alloc (.cells #[.int .i64 o1, .int .i64 o2, .bool o3, .bool o4] 26)).alloc (.cells #[.slice (some ⟨wr.heap.size, 0, none⟩) 1 1, .slice none 0 0, .int .i64 nx0] 49)) _ := load_yes (some ⟨wr.heap.size, 0, none⟩) 1 (.slice none 0 0) nx0 [(⟨o1, o2, o3, o4⟩ : Lv)] ((wr.alloc (.cells #[.int .i64 o1, .int .i64 o2, .bool o3, .bool o4] 26)).alloc (.cells #[.slice (some ⟨wr.heap.size, 0, none⟩) 1 1, .slice none 0 0, .int .i64 nx0] 49)) ((lies_new4 wr (⟨o1, o2, o3, o4⟩ : Lv) 26).below (alloc_below (wr.alloc (.cells #[.int .i64 o1, .int .i64 o2, .bool o3, .bool o4] 26)) (.cells #[.slice (some ⟨wr.heap.size, 0, none⟩) 1 1, .slice none 0 0, .int .i64 nx0] 49))) (by simp)
                      have KZ : loadOk [(⟨o1, o2, o3, o4⟩ : Lv)] nx0 = false → Calls Try.prog 14 #[.agg #[.slice (some ⟨wr.heap.size, 0, none⟩) 1 1, .slice none 0 0, .int .i64 nx0]] ((wr.alloc (.cells #[.int .i64 o1, .int .i64 o2, .bool o3, .bool o4] 26)).alloc (.cells #[.slice (some ⟨wr.heap.size, 0, none⟩) 1 1, .slice none 0 0, .int .i64 nx0] 49)) _ := load_no (some ⟨wr.heap.size, 0, none⟩) 1 (.slice none 0 0) nx0 [(⟨o1, o2, o3, o4⟩ : Lv)] ((wr.alloc (.cells #[.int .i64 o1, .int .i64 o2, .bool o3, .bool o4] 26)).alloc (.cells #[.slice (some ⟨wr.heap.size, 0, none⟩) 1 1, .slice none 0 0, .int .i64 nx0] 49)) ((lies_new4 wr (⟨o1, o2, o3, o4⟩ : Lv) 26).below (alloc_below (wr.alloc (.cells #[.int .i64 o1, .int .i64 o2, .bool o3, .bool o4] 26)) (.cells #[.slice (some ⟨wr.heap.size, 0, none⟩) 1 1, .slice none 0 0, .int .i64 nx0] 49))) (by simp)
                      have BZ := hide ((HBW.out.alloc HBW.out.size (.cells #[.int .i64 o1, .int .i64 o2, .bool o3, .bool o4] 26)).alloc (HBW.out.alloc HBW.out.size (.cells #[.int .i64 o1, .int .i64 o2, .bool o3, .bool o4] 26)).size (.cells #[.slice (some ⟨wr.heap.size, 0, none⟩) 1 1, .slice none 0 0, .int .i64 nx0] 49))
                      rw [← HRQ.out] at KY KZ
                      clear HRQ
                      cases R0
                      · have K9 := KZ rfl
                        clear KY KZ
                        go_wp2_with fail
                        refine K9.mono ?_
                        rintro e x9 ⟨rfl, hh⟩
                        have FB := hide (BZ.out.trans (hh.mono BZ.out.size))
                        clear hh K9
                        go_wp2_with (go_at_call 7; refine (num_eq _ _).mono ?_; rintro e wz ⟨rfl, rfl⟩)
                        go_ret
                        exact ⟨rfl, FB.out⟩
                      · have K9 := KY rfl
                        clear KY KZ
                        go_wp2_with fail
                        refine K9.mono ?_
                        rintro e x9 ⟨v9, n9, rfl, -, -, -, hh⟩
                        have FB := hide (BZ.out.trans (hh.mono BZ.out.size))
                        have e9 := fun w => (ptr_nil v9 27 (.inl rfl) w).1
                        clear hh K9
                        go_wp2_with (go_at_call 7; refine (num_eq _ _).mono ?_; rintro e wz ⟨rfl, rfl⟩)
                        go_ret
                        exact ⟨rfl, FB.out⟩
              · obtain ⟨hlt, hlt2⟩ := HQ0.out rfl
                clear HQ0
                as_aux_lemma =>
                  obtain ⟨bl, off, ha, hbl, hcell⟩ := Lies.rowAt recL 17 recL_len HRS.out j hlt (by omega)
                  subst ha
                  obtain ⟨x, hx⟩ : ∃ x, x = rs[j] := ⟨_, rfl⟩
                  have hxi := HRI.out x (by rw [hx]; exact List.getElem_mem hlt)
                  rw [← hx] at hcell
                  have HRA := hide (recL_rec x hxi)
                  have HC := hide (fun wq (hq : Below w.heap.size w wq) i v (hv : (recL x)[i]? = some v) => show wq.cell? ⟨bl, off + j * 17 + i, none⟩ = some v from (hq.cell (p := ⟨bl, off + j * 17 + i, none⟩) hbl).trans (hcell i v hv))
                  have HC0 := hide (fun wq (hq : Below w.heap.size w wq) => show wq.cell? ⟨bl, off + j * 17, none⟩ = some (.int .i64 x.lsn) from HC.out wq hq 0 _ rfl)
                  have HL17 := hide (show (recL x).toArray.size = 17 by simp [recL])
                  clear hcell hbl hx hxi
                  have K1 := fun w' (h : PT w' b m t2) => note_any b m t2 (recL x).toArray x.lsn x.k x.tx x.prev w' h HRA.out
                  have K2 := fun w' (h : PT w' u n t2) => note_any u n t2 (recL x).toArray x.lsn x.k x.tx x.prev w' h HRA.out
                  unfold NotePost at K1 K2
                  generalize t2.noteE x.lsn x.k x.tx x.prev = E at *
                  obtain ⟨t3, ht3⟩ : ∃ t3, t3 = t2.noteT x.lsn x.k x.tx x.prev := ⟨_, rfl⟩
                  rw [← ht3] at K1 K2
                  clear ht3
                  obtain ⟨RA, hRA⟩ : ∃ RA, RA = (recL x).toArray := ⟨_, rfl⟩
                  rw [← hRA] at K1 K2 HL17
                  have HC2 := hide (fun wq (hq : Below w.heap.size w wq) => show ∀ i v, RA.toList[i]? = some v → wq.cell? ⟨bl, off + j * 17 + i, none⟩ = some v from fun i v hv => HC.out wq hq i v (by rw [hRA] at hv; simpa using hv))
                  generalize x.lsn = lsn at *
                  clear hRA HC HRA
                  go_upto_region 19 with fail
                  refine wp_region_held_drew (S := fun wq => Below w.heap.size w wq) (by kernel_rfl) BQ.out.be.drew (fun hS => ?_)
                  have BD := hide (BQ.out.below (Below.refl wr.heap.size wr).drew)
                  clear BQ
                  generalize wr.drew = x0 at *
                  refine take_at 0 (some 124) (v := ?_) rfl rfl (by kernel_rfl) (by kernel_rfl) (by kernel_rfl) (fun _ _ _ h => h) ⟨by rfl, ?_⟩ hS ?_
                  rotate_left
                  · intro wq hSw; go_simp; try rfl
                  simp only [Act.put, List.setIfInBounds_toArray, List.set_cons_zero, List.set_cons_succ]
                  refine take_at 1 (some 125) (v := ?_) rfl rfl (by kernel_rfl) (by kernel_rfl) (by kernel_rfl) (fun _ _ _ h => h) ⟨by rfl, ?_⟩ hS ?_
                  rotate_left
                  · intro wq hSw; go_simp; try rfl
                  simp only [Act.put, List.setIfInBounds_toArray, List.set_cons_zero, List.set_cons_succ]
                  refine take_at 2 (some 126) (v := ?_) rfl rfl (by kernel_rfl) (by kernel_rfl) (by kernel_rfl) (fun _ _ _ h => h) ⟨by rfl, ?_⟩ hS ?_
                  rotate_left
                  · intro wq hSw; go_simp; try rfl
                  simp only [Act.put, List.setIfInBounds_toArray, List.set_cons_zero, List.set_cons_succ]
                  refine take_at 3 (some 127) (v := ?_) rfl rfl (by kernel_rfl) (by kernel_rfl) (by kernel_rfl) (fun _ _ _ h => h) ⟨by rfl, ?_⟩ hS ?_
                  rotate_left
                  · intro wq hSw; go_simp; try rfl
                  simp only [Act.put, List.setIfInBounds_toArray, List.set_cons_zero, List.set_cons_succ]
                  refine take_at 4 (some 128) (v := .agg RA) rfl rfl (by kernel_rfl) (by kernel_rfl) (by kernel_rfl) (fun _ _ _ h => h) ⟨by rfl, fun wq hSw => exec_load51 rfl rfl (HC2.out wq hSw) HL17.out⟩ hS ?_
                  simp only [Act.put, List.setIfInBounds_toArray, List.set_cons_zero, List.set_cons_succ]
                  refine take_at 6 (some 130) (v := ?_) rfl rfl (by kernel_rfl) (by kernel_rfl) (by kernel_rfl) (fun _ _ _ h => h) ⟨by rfl, ?_⟩ hS ?_
                  rotate_left
                  · intro wq hSw; go_simp; try rfl
                  simp only [Act.put, List.setIfInBounds_toArray, List.set_cons_zero, List.set_cons_succ]
                  refine take_at 7 (some 131) (v := ?_) rfl rfl (by kernel_rfl) (by kernel_rfl) (by kernel_rfl) (fun _ _ _ h => h) ⟨by rfl, ?_⟩ hS ?_
                  rotate_left
                  · intro wq hSw; go_simp; try rfl
                  simp only [Act.put, List.setIfInBounds_toArray, List.set_cons_zero, List.set_cons_succ]
                  refine take_at 8 (some 132) (v := ?_) rfl rfl (by kernel_rfl) (by kernel_rfl) (by kernel_rfl) (fun _ _ _ h => h) ⟨by rfl, ?_⟩ hS ?_
                  rotate_left
                  · intro wq hSw; go_simp; try rfl
                  simp only [Act.put, List.setIfInBounds_toArray, List.set_cons_zero, List.set_cons_succ]
                  refine take_at 9 (some 133) (v := ?_) rfl rfl (by kernel_rfl) (by kernel_rfl) (by kernel_rfl) (fun _ _ _ h => h) ⟨by rfl, ?_⟩ hS ?_
                  rotate_left
                  · intro wq hSw; go_simp; try rfl
                  simp only [Act.put, List.setIfInBounds_toArray, List.set_cons_zero, List.set_cons_succ]
                  refine take_at 10 (some 134) (v := .agg RA) rfl rfl (by kernel_rfl) (by kernel_rfl) (by kernel_rfl) (fun _ _ _ h => h) ⟨by rfl, fun wq hSw => exec_load51 rfl rfl (HC2.out wq hSw) HL17.out⟩ hS ?_
                  simp only [Act.put, List.setIfInBounds_toArray, List.set_cons_zero, List.set_cons_succ]
                  clear hS
                  refine wpAnyH_ready (rs := [5]) (by kernel_rfl) (by simp) ?_
                  refine AllReadyH.cons rfl (fun K hK => ?_) AllReadyH.nil
                  go_simp
                  go_wp2_with fail
                  refine (K1 _ BD.out.p1).mono ?_
                  rintro e x1 ⟨rfl, p, kp⟩
                  have F1 := hide (BD.out.first p kp)
                  clear p kp
                  go_wp2_with fail
                  refine hK.out _ _ F1.out.2.2.2.2 (fun hS => ?_)
                  clear hK K hS
                  (try simp only [Act.put, List.setIfInBounds_toArray, List.set_cons_zero, List.set_cons_succ])
                  refine wpAnyH_ready (rs := [11]) (by kernel_rfl) (by simp) ?_
                  refine AllReadyH.cons rfl (fun K hK => ?_) AllReadyH.nil
                  go_simp
                  go_wp2_with fail
                  refine (K2 _ F1.out.2.1).mono ?_
                  rintro e x2 ⟨rfl, p, kp⟩
                  have B2 := hide (BD.out.second F1.out p kp)
                  clear p kp F1 BD K1 K2
                  go_wp2_with fail
                  refine hK.out _ _ B2.out.be (fun hS => ?_)
                  clear hK K
                  (try simp only [Act.put, List.setIfInBounds_toArray, List.set_cons_zero, List.set_cons_succ])
                  as_aux_lemma =>
                    refine take_at 12 (some 136) (v := ?_) rfl rfl (by kernel_rfl) (by kernel_rfl) (by kernel_rfl) (fun _ _ _ h => h) ⟨by rfl, ?_⟩ hS ?_
                    rotate_left
                    · intro wq hSw; go_simp; try rfl
                    simp only [Act.put, List.setIfInBounds_toArray, List.set_cons_zero, List.set_cons_succ]
                    refine take_at 13 (some 137) (v := ?_) rfl rfl (by kernel_rfl) (by kernel_rfl) (by kernel_rfl) (fun _ _ _ h => h) ⟨by rfl, ?_⟩ hS ?_
                    rotate_left
                    · intro wq hSw; go_simp; try rfl
                    simp only [Act.put, List.setIfInBounds_toArray, List.set_cons_zero, List.set_cons_succ]
                    refine take_at 14 (some 138) (v := ?_) rfl rfl (by kernel_rfl) (by kernel_rfl) (by kernel_rfl) (fun _ _ _ h => h) ⟨by rfl, ?_⟩ hS ?_
                    rotate_left
                    · intro wq hSw; go_simp; try rfl
                    simp only [Act.put, List.setIfInBounds_toArray, List.set_cons_zero, List.set_cons_succ]
                    refine take_at 16 (some 140) (v := ?_) rfl rfl (by kernel_rfl) (by kernel_rfl) (by kernel_rfl) (fun _ _ _ h => h) ⟨by rfl, ?_⟩ hS ?_
                    rotate_left
                    · intro wq hSw; go_simp; try rfl
                    simp only [Act.put, List.setIfInBounds_toArray, List.set_cons_zero, List.set_cons_succ]
                    clear hS
                    refine wpAnyH_ready (rs := [15]) (by kernel_rfl) (by simp) ?_
                    refine AllReadyH.cons rfl (fun K hK => ?_) AllReadyH.nil
                    go_simp
                    go_wp2_with fail
                    refine (live_any b m t3 _ B2.out.p1).mono ?_
                    rintro e x3 ⟨v, rfl, hrow, hnb, hh⟩
                    obtain ⟨g1, c1, rfl, -, -, hl1⟩ := row_form hrow hnb
                    have L1 := hide hl1
                    have B3 := hide (B2.out.below hh)
                    clear hrow hnb hh hl1 B2
                    go_wp2_with fail
                    refine hK.out _ _ B3.out.be (fun hS => ?_)
                    clear hK K hS
                    (try simp only [Act.put, List.setIfInBounds_toArray, List.set_cons_zero, List.set_cons_succ])
                    refine wpAnyH_ready (rs := [17]) (by kernel_rfl) (by simp) ?_
                    refine AllReadyH.cons rfl (fun K hK => ?_) AllReadyH.nil
                    go_simp
                    go_wp2_with fail
                    refine (live_any u n t3 _ B3.out.p2).mono ?_
                    rintro e x4 ⟨v, rfl, hrow, hnb, hh⟩
                    obtain ⟨g2, c2, rfl, -, -, hl2⟩ := row_form hrow hnb
                    have L2 := hide hl2
                    have L1b := hide (L1.out.below hh)
                    have B4 := hide (B3.out.below hh)
                    clear hrow hnb hh hl2 B3 L1
                    go_wp2_with fail
                    refine hK.out _ _ B4.out.be (fun hS => ?_)
                    clear hK K hS
                    (try simp only [Act.put, List.setIfInBounds_toArray, List.set_cons_zero, List.set_cons_succ])
                    refine wpAnyH_ready (rs := [18]) (by kernel_rfl) (by simp) ?_
                    refine AllReadyH.cons rfl (fun K hK => ?_) AllReadyH.nil
                    go_simp
                    go_wp2_with fail
                    refine (same_true t3.L _ _ _ _ _ L1b.out L2.out (by have := B4.out.p1.ok.few; omega)).mono ?_
                    rintro e x5 ⟨rfl, hh⟩
                    have B5 := hide (B4.out.below hh)
                    clear hh B4 L1b L2
                    go_wp2_with fail
                    refine hK.out _ _ B5.out.be (fun hS => ?_)
                    clear hK K
                    (try simp only [Act.put, List.setIfInBounds_toArray, List.set_cons_zero, List.set_cons_succ])
                    refine take_at 19 (some 143) (v := ?_) rfl rfl (by kernel_rfl) (by kernel_rfl) (by kernel_rfl) (fun _ _ _ h => h) ⟨by rfl, ?_⟩ hS ?_
                    rotate_left
                    · intro wq hSw; go_simp; try rfl
                    simp only [Act.put, List.setIfInBounds_toArray, List.set_cons_zero, List.set_cons_succ]
                    refine take_at 20 (some 144) (v := ?_) rfl rfl (by kernel_rfl) (by kernel_rfl) (by kernel_rfl) (fun _ _ _ h => h) ⟨by rfl, ?_⟩ hS ?_
                    rotate_left
                    · intro wq hSw; go_simp; try rfl
                    simp only [Act.put, List.setIfInBounds_toArray, List.set_cons_zero, List.set_cons_succ]
                    refine take_at 21 (some 145) (v := ?_) rfl rfl (by kernel_rfl) (by kernel_rfl) (by kernel_rfl) (fun _ _ _ h => h) ⟨by rfl, ?_⟩ hS ?_
                    rotate_left
                    · intro wq hSw; go_simp; try rfl
                    simp only [Act.put, List.setIfInBounds_toArray, List.set_cons_zero, List.set_cons_succ]
                    refine take_at 22 (some 146) (v := ?_) rfl rfl (by kernel_rfl) (by kernel_rfl) (by kernel_rfl) (fun _ _ _ h => h) ⟨by rfl, ?_⟩ hS ?_
                    rotate_left
                    · intro wq hSw; go_simp; try rfl
                    simp only [Act.put, List.setIfInBounds_toArray, List.set_cons_zero, List.set_cons_succ]
                    refine take_at 24 (some 148) (v := ?_) rfl rfl (by kernel_rfl) (by kernel_rfl) (by kernel_rfl) (fun _ _ _ h => h) ⟨by rfl, ?_⟩ hS ?_
                    rotate_left
                    · intro wq hSw; go_simp; try rfl
                    simp only [Act.put, List.setIfInBounds_toArray, List.set_cons_zero, List.set_cons_succ]
                    refine wpAnyH_ready (rs := [23]) (by kernel_rfl) (by simp) ?_
                    refine AllReadyH.cons rfl (fun K hK => ?_) AllReadyH.nil
                    go_simp
                    go_wp2_with fail
                    refine (next_any b m t3 _ B5.out.p1).mono ?_
                    rintro e wz ⟨rfl, rfl⟩
                    go_wp2_with fail
                    refine hK.out _ _ hS (fun hS => ?_)
                    clear hK K
                    (try simp only [Act.put, List.setIfInBounds_toArray, List.set_cons_zero, List.set_cons_succ])
                    refine wpAnyH_ready (rs := [25]) (by kernel_rfl) (by simp) ?_
                    refine AllReadyH.cons rfl (fun K hK => ?_) AllReadyH.nil
                    go_simp
                    go_wp2_with fail
                    refine (next_any u n t3 _ B5.out.p2).mono ?_
                    rintro e wz ⟨rfl, rfl⟩
                    go_wp2_with fail
                    refine hK.out _ _ hS (fun hS => ?_)
                    clear hK K
                    (try simp only [Act.put, List.setIfInBounds_toArray, List.set_cons_zero, List.set_cons_succ])
                    refine take_at 26 (some 150) (v := ?_) rfl rfl (by kernel_rfl) (by kernel_rfl) (by kernel_rfl) (fun _ _ _ h => h) ⟨by rfl, ?_⟩ hS ?_
                    rotate_left
                    · intro wq hSw; go_simp; try rfl
                    simp only [Act.put, List.setIfInBounds_toArray, List.set_cons_zero, List.set_cons_succ]
                    refine take_at 27 (some 151) (v := ?_) rfl rfl (by kernel_rfl) (by kernel_rfl) (by kernel_rfl) (fun _ _ _ h => h) ⟨by rfl, ?_⟩ hS ?_
                    rotate_left
                    · intro wq hSw; go_simp; try rfl
                    simp only [Act.put, List.setIfInBounds_toArray, List.set_cons_zero, List.set_cons_succ]
                    clear hS
                    refine wpAnyH_done (by kernel_rfl) ?_ _
                    have y0 := HC0.out _ B5.out.be
                    go_wp2_with fail
                    refine (Begin_any b m t3 lsn _ B5.out.p1).mono ?_
                    rintro e x6 ⟨rfl, p, kp⟩
                    have F1 := hide (B5.out.first p kp)
                    clear p kp y0
                    have y0 := HC0.out _ F1.out.2.2.2.2
                    go_wp2_with fail
                    refine (Begin_any u n t3 lsn _ F1.out.2.1).mono ?_
                    rintro e x7 ⟨rfl, p, kp⟩
                    have B7 := hide (B5.out.second F1.out p kp)
                    clear p kp y0 F1 B5
                    go_wp2_with fail
                    go_roundw
                    case rel => first | exact ⟨j + 1, _, by go_num, by omega, by omega, B7.out⟩ | ((repeat apply Exists.intro); exact ⟨⟨j + 1, _, by go_num, by omega, by omega, B7.out⟩, rfl⟩)
                    case measure => simp [intOf]; omega
      · obtain ⟨hlt, hlt2⟩ := HQ0.out rfl
        clear HQ0
        obtain ⟨bl, off, ha, hbl, hcell⟩ := Lies.rowAt m2 2 (fun _ => rfl) HMS.out k hlt (by omega)
        subst ha
        have MM := hide (fun wq (hq : Below w.heap.size w wq) => show wq.cell? ⟨bl, off + k * 2, none⟩ = some (.int .i64 ms[k].1) ∧ wq.cell? ⟨bl, off + k * 2 + 1, none⟩ = some (.int .i64 ms[k].2) from ⟨(hq.cell (p := ⟨bl, off + k * 2, none⟩) hbl).trans (hcell 0 _ rfl), (hq.cell (p := ⟨bl, off + k * 2 + 1, none⟩) hbl).trans (hcell 1 _ rfl)⟩)
        have hk3 : decide ((k : Int) < 60) = true := by simp; omega
        have hk4 : decide ((k : Int) < (ms.length : Int)) = true := by simp; omega
        generalize ms[k].1 = mk at *
        generalize ms[k].2 = mw at *
        clear hcell hbl
        have few := PT3.out.ok.few
        have KL := live_any b m t wr PT3.out
        have hwk : wrap64 ((k : Int) + 1) = (k : Int) + 1 := wrapI (by unfold I64; omega)
        have hwk2 : IntKind.i64.wrap ((k : Int) + 1) = (k : Int) + 1 := wrapK (by unfold I64; omega)
        go_upto_region 8 with fail
        refine KL.mono ?_
        rintro e w4 ⟨v, rfl, hrow, hnb, hh⟩
        obtain ⟨g, gc, rfl, -, -, hl1⟩ := row_form hrow hnb
        have RL := hide hl1
        have P4 := hide (PT3.out.below hh)
        have C4 := hide (CO3.out.below hh)
        have B4 := hide (B3.out.trans (hh.mono B3.out.size))
        clear hrow hnb hh hl1 PT3 CO3 B3 KL
        go_upto_region 8 with fail
        go_cut [64] from 41 to 64 (fun v w' => ∃ q : Bool, v = .bool q ∧ (q = false → 0 < t.L.length) ∧ w4 = w')
        case first =>
          obtain ⟨-, y1⟩ := MM.out _ B4.out
          have KR : ∀ w, Calls Try.prog 10 #[.int .i64 mw, .int .i64 3] w _ := fun w => rest_any mw 3 (by omega) (by omega) w
          by_cases hz : t.L.length = 0
          · have d0 : ((t.L.length : Int) == 0) = true := by simp; exact List.eq_nil_of_length_eq_zero hz
            go_wp2_with fail
            go_meet
            exact ⟨true, rfl, (fun q => by cases q), rfl⟩
          · have d0 : ((t.L.length : Int) == 0) = false := by simp; intro q; exact hz (by rw [q]; rfl)
            have HZ := hide hz
            clear hz
            go_wp2_with (go_at_call 10; refine (KR _).mono ?_; rintro e wz ⟨r, hr, rfl, rfl⟩)
            go_meet
            exact ⟨_, rfl, (fun _ => by have := HZ.out; omega), rfl⟩
        case rest =>
          obtain ⟨q, rfl, hq, rfl⟩ := hcut
          have HQ := hide hq
          clear hq
          cases q
          · have hpos := HQ.out rfl
            as_aux_lemma =>
              have KR : ∀ w, Calls Try.prog 10 #[.int .i64 mw, .int .i64 (t.L.length : Int)] w _ := fun w => rest_any mw t.L.length hpos (by omega) w
              obtain ⟨-, y1⟩ := MM.out _ B4.out
              go_wp2_with fail
              refine (KR _).mono ?_
              rintro e wz ⟨r, hr, rfl, rfl⟩
              clear KR y1
              obtain ⟨b9, o9, ha9, -, p0, p1, p2, p3⟩ := row_at RL.out (Below.refl _ _) hr
              cases ha9
              rw [Nat.zero_add] at p0 p1 p2 p3
              have XI := hide (show I64 t.L[r].tx by have h0 := P4.out.ok.each _ (List.getElem_mem hr); have h1 := h0.tx1; have h2 := h0.tx2; have h3 := P4.out.ok.n2; unfold I64; omega)
              generalize t.L[r] = x at *
              obtain ⟨z1, z2, z3, z4⟩ := x
              simp only at p0 p1 p2 p3
              go_upto_region 11 with fail
              refine named (P := Code.wp _ _ _ _) ?_
              intro w5 hw5
              obtain ⟨xb, hxb⟩ : ∃ xb, xb = w4.heap.size := ⟨_, rfl⟩
              have CX := hide (show Cells w5 xb (lvC ⟨z1, z2, z3, z4⟩) by rw [hw5, hxb]; exact Cells.new _ _ _)
              have P5 := hide (show PT w5 b m t by rw [hw5]; exact P4.out.below (alloc_below _ _))
              have C5 := hide (show Cells w5 ob (lvC ⟨o1, o2, o3, o4⟩) by rw [hw5]; exact C4.out.below (alloc_below _ _))
              have B5 := hide (show Below w.heap.size w w5 by rw [hw5]; exact B4.out.alloc B4.out.size _)
              have XN := hide (show ¬ (xb = b ∨ xb = m) by have := P4.out.lt; omega)
              rw [← hxb]
              clear hw5 hxb p0 p1 p2 p3 P4 C4 B4 RL
              have KR : ∀ w, Calls Try.prog 10 #[.int .i64 mk, .int .i64 5] w _ := fun w => rest_any mk 5 (by omega) (by omega) w
              refine wp_region_held_drew (S := fun wq => Keep (fun z => z = b ∨ z = m) w5 wq) (by kernel_rfl) (Keep.refl _ _).drew (fun hS => ?_)
              have BW := hide (fun wq (hq : Keep (fun z => z = b ∨ z = m) w5 wq) => B5.out.trans (hq.below B5.out.size (fun z hz q => by have := LO.out; omega)))
              refine take_at 0 (some 80) (v := ?_) rfl rfl (by kernel_rfl) (by kernel_rfl) (by kernel_rfl) (fun _ _ _ h => h) ⟨by rfl, ?_⟩ hS ?_
              rotate_left
              · intro wq hSw; go_simp; try rfl
              simp only [Act.put, List.setIfInBounds_toArray, List.set_cons_zero, List.set_cons_succ]
              refine take_at 1 (some 81) (v := ?_) rfl rfl (by kernel_rfl) (by kernel_rfl) (by kernel_rfl) (fun _ _ _ h => h) ⟨by rfl, ?_⟩ hS ?_
              rotate_left
              · intro wq hSw; go_simp; try rfl
              simp only [Act.put, List.setIfInBounds_toArray, List.set_cons_zero, List.set_cons_succ]
              refine take_at 2 (some 82) (v := ?_) rfl rfl (by kernel_rfl) (by kernel_rfl) (by kernel_rfl) (fun _ _ _ h => h) ⟨by rfl, ?_⟩ hS ?_
              rotate_left
              · intro wq hSw; go_simp; try rfl
              simp only [Act.put, List.setIfInBounds_toArray, List.set_cons_zero, List.set_cons_succ]
              refine take_at 3 (some 83) (v := ?_) rfl rfl (by kernel_rfl) (by kernel_rfl) (by kernel_rfl) (fun _ _ _ h => h) ⟨by rfl, ?_⟩ hS ?_
              rotate_left
              · intro wq hSw; go_simp; try rfl
              simp only [Act.put, List.setIfInBounds_toArray, List.set_cons_zero, List.set_cons_succ]
              refine take_at 4 (some 84) (v := ?_) rfl rfl (by kernel_rfl) (by kernel_rfl) (by kernel_rfl) (fun _ _ _ h => h) ⟨by rfl, ?_⟩ hS ?_
              rotate_left
              · intro wq hSw; go_simp; try rfl
              simp only [Act.put, List.setIfInBounds_toArray, List.set_cons_zero, List.set_cons_succ]
              refine take_at 5 (some 85) (v := ?_) rfl rfl (by kernel_rfl) (by kernel_rfl) (by kernel_rfl) (fun _ _ _ h => h) ⟨by rfl, ?_⟩ hS ?_
              rotate_left
              · intro wq hSw; go_simp; try rfl
              simp only [Act.put, List.setIfInBounds_toArray, List.set_cons_zero, List.set_cons_succ]
              refine take_at 6 (some 86) (v := ?_) rfl rfl (by kernel_rfl) (by kernel_rfl) (by kernel_rfl) (fun _ _ _ h => h) ⟨by rfl, ?_⟩ hS ?_
              rotate_left
              · intro wq hSw; go_simp; try rfl
              simp only [Act.put, List.setIfInBounds_toArray, List.set_cons_zero, List.set_cons_succ]
              refine take_at 7 (some 87) (v := ?_) rfl rfl (by kernel_rfl) (by kernel_rfl) (by kernel_rfl) (fun _ _ _ h => h) ⟨by rfl, ?_⟩ hS ?_
              rotate_left
              · intro wq hSw; obtain ⟨q, -⟩ := MM.out wq (BW.out wq hSw); go_simp; try rfl
              simp only [Act.put, List.setIfInBounds_toArray, List.set_cons_zero, List.set_cons_succ]
              refine take_at 10 (some 90) (v := ?_) rfl rfl (by kernel_rfl) (by kernel_rfl) (by kernel_rfl) (fun _ _ _ h => h) ⟨by rfl, ?_⟩ hS ?_
              rotate_left
              · intro wq hSw; go_simp; try rfl
              simp only [Act.put, List.setIfInBounds_toArray, List.set_cons_zero, List.set_cons_succ]
              refine take_at 11 (some 91) (v := ?_) rfl rfl (by kernel_rfl) (by kernel_rfl) (by kernel_rfl) (fun _ _ _ h => h) ⟨by rfl, ?_⟩ hS ?_
              rotate_left
              · intro wq hSw; have q := ((CX.out.keep hSw XN.out).get 0 _ rfl).1; go_simp; try rfl
              simp only [Act.put, List.setIfInBounds_toArray, List.set_cons_zero, List.set_cons_succ]
              refine take_at 12 (some 92) (v := ?_) rfl rfl (by kernel_rfl) (by kernel_rfl) (by kernel_rfl) (fun _ _ _ h => h) ⟨by rfl, ?_⟩ hS ?_
              rotate_left
              · intro wq hSw; go_simp; try rfl
              simp only [Act.put, List.setIfInBounds_toArray, List.set_cons_zero, List.set_cons_succ]
              refine take_at 13 (some 93) (v := ?_) rfl rfl (by kernel_rfl) (by kernel_rfl) (by kernel_rfl) (fun _ _ _ h => h) ⟨by rfl, ?_⟩ hS ?_
              rotate_left
              · intro wq hSw; have q := ((CX.out.keep hSw XN.out).get 1 _ rfl).1; go_simp; try rfl
              simp only [Act.put, List.setIfInBounds_toArray, List.set_cons_zero, List.set_cons_succ]
              have PX := hide (P5.out.below (Below.refl w5.heap.size w5).drew)
              have CX5 := hide (C5.out.below (Below.refl w5.heap.size w5).drew)
              have BX5 := hide (B5.out.trans ((Below.refl w5.heap.size w5).drew.mono B5.out.size))
              have HS := hide hS
              clear P5 C5 B5 hS
              generalize w5.drew = x5 at *
              refine wpAnyH_ready (rs := [8]) (by kernel_rfl) (by simp) ?_
              refine AllReadyH.cons rfl (fun K hK => ?_) AllReadyH.nil
              go_simp
              go_wp2_with fail
              refine (KR _).mono ?_
              rintro e wz ⟨r5, hr5, rfl, rfl⟩
              go_wp2_with fail
              refine hK.out _ _ HS.out (fun hS => ?_)
              clear hK K
              (try simp only [Act.put, List.setIfInBounds_toArray, List.set_cons_zero, List.set_cons_succ])
              have hw5 : IntKind.i64.wrap (3 + (r5 : Int)) = 3 + (r5 : Int) := wrapK (by unfold I64; omega)
              refine take_at 9 (some 89) (v := ?_) rfl rfl (by kernel_rfl) (by kernel_rfl) (by kernel_rfl) (fun _ _ _ h => h) ⟨by rfl, ?_⟩ hS ?_
              rotate_left
              · intro wq hSw; go_simp; try rfl
              simp only [Act.put, List.setIfInBounds_toArray, List.set_cons_zero, List.set_cons_succ]
              refine take_at 14 (some 94) (v := ?_) rfl rfl (by kernel_rfl) (by kernel_rfl) (by kernel_rfl) (fun _ _ _ h => h) ⟨by rfl, ?_⟩ hS ?_
              rotate_left
              · intro wq hSw; go_simp; try rfl
              simp only [Act.put, List.setIfInBounds_toArray, List.set_cons_zero, List.set_cons_succ]
              have KX := note_any b m t (litR ((k : Int) + 1) (3 + (r5 : Int)) z1 z2) ((k : Int) + 1) (3 + (r5 : Int)) z1 z2 _ PX.out (litR_rec _ _ _ _ XI.out)
              unfold NotePost at KX
              clear hS
              refine wpAnyH_ready (rs := [15]) (by kernel_rfl) (by simp) ?_
              refine AllReadyH.cons rfl (fun K hK => ?_) AllReadyH.nil
              go_simp
              go_wp2_with fail
              refine KX.mono ?_
              rintro e x6 ⟨rfl, p6, k6⟩
              have P6 := hide p6
              have C6 := hide (CX5.out.keep k6 (by have := LO.out; omega))
              have B6 := hide (BX5.out.trans (k6.below BX5.out.size (fun z hz q => by have := LO.out; omega)))
              have S6 := hide (HS.out.trans k6 (fun _ _ q => q))
              clear p6 k6
              go_wp2_with fail
              refine hK.out _ _ S6.out (fun hS => ?_)
              clear hK K hS
              (try simp only [Act.put, List.setIfInBounds_toArray, List.set_cons_zero, List.set_cons_succ])
              refine wpAnyH_done (by kernel_rfl) ?_ _
              go_wp2_with fail
              go_roundw
              case rel => first | exact ⟨k + 1, _, by go_num, by omega, by omega, P6.out, C6.out, B6.out⟩ | ((repeat apply Exists.intro); exact ⟨⟨k + 1, _, by go_num, by omega, by omega, P6.out, C6.out, B6.out⟩, rfl⟩)
              case measure => simp [intOf]; omega
          · have KB := Begin_any b m t ((k : Int) + 1) w4 P4.out
            go_wp2_with fail
            refine KB.mono ?_
            rintro e w5 ⟨rfl, p5, k5⟩
            have P5 := hide p5
            have C5 := hide (C4.out.keep k5 (by have := LO.out; omega))
            have B5 := hide (B4.out.trans (k5.below B4.out.size (fun z hz q => by have := LO.out; omega)))
            clear p5 k5 KB
            go_wp2_with fail
            go_roundw
            case rel => first | exact ⟨k + 1, _, by go_num, by omega, by omega, P5.out, C5.out, B5.out⟩ | ((repeat apply Exists.intro); exact ⟨⟨k + 1, _, by go_num, by omega, by omega, P5.out, C5.out, B5.out⟩, rfl⟩)
            case measure => simp [intOf]; omega
end Go.Proofs.Ytokcocmenndlmaa
