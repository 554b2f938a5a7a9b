import Derived.Test.YtblngphjoafidaaAn12
namespace Go.Proofs.Ytblngphjoafidaa
open Go.RowKit Go.QK Go.Maps Go.QM Go.QT
set_option maxRecDepth 100000
theorem slice_to17 (a : Option Addr) (n cap k : Nat) (w : World) (h : k ≤ n) (h2 : n ≤ cap) (h4 : a = none → cap = 0) :
    (Instr.slice 24 (.slice a n cap) none (some (.int .i64 k)) none).run Try.prog w = .ok (.slice a k cap) w := by
  have h3 : k ≤ cap := by omega
  have ht := Try.underlying24
  have hz := Try.sizeOf46
  cases a with
  | none =>
    obtain rfl := h4 rfl
    obtain rfl : n = 0 := by omega
    obtain rfl : k = 0 := by omega
    go_simp
  | some ad =>
    go_simp
theorem rowsC_take {α : Type} (f : α → List Value) (n : Nat) (hf : ∀ x, (f x).length = n) (ls : List α) (k : Nat) : rowsC f (ls.take k) = (rowsC f ls).take (k * n) := by
  induction ls generalizing k with
  | nil => simp [rowsC]
  | cons l ls ih =>
    cases k with
    | zero => simp [rowsC]
    | succ k =>
      have := ih k
      simp only [rowsC, List.take_succ_cons, List.flatMap_cons] at this ⊢
      rw [this, show (k + 1) * n = (f l).length + k * n by rw [hf]; rw [Nat.succ_mul]; omega]
      rw [List.take_length_add_append]
theorem RecsAt.take {w : World} {a : Option Addr} {xs : List RX} (h : RecsAt w a xs) (k : Nat) : RecsAt w a (xs.take k) := by
  refine ⟨?_, fun x hx => h.each x (List.mem_of_mem_take hx)⟩
  rw [rowsC_take rxC 17 rx_len]
  rcases h.row with h1 | ⟨b, off, ha, hl, hc⟩
  · exact .inl (by rw [h1]; simp)
  · refine .inr ⟨b, off, ha, hl, fun i hi => ?_⟩
    rw [hc i (by simp at hi; omega)]
    simp
/-- What the loop asks of each record and each live transaction. -/
theorem quiet_false {rs : List RecM} {p : PassM} (g : Grown rs p) {r : RecM} (hr : r ∈ rs) {x : Lv} (hx : x ∈ p.tb.L) : ((r.kind == 7) = true → (r.tx == x.tx) = false) ∧ ((r.tx == x.tx) = true → decide (x.last < r.lsn) = false) := by
  refine ⟨fun h => ?_, fun h => ?_⟩
  · by_cases q : r.tx = x.tx
    · have := (g.quiet r hr x hx q).1
      simp at h
      exact absurd h this
    · simpa using q
  · have q : r.tx = x.tx := by simpa using h
    have := (g.quiet r hr x hx q).2
    simp
    omega
theorem nB_take (rs : List RecM) {i : Nat} (hi : i < rs.length) : nB (rs.take (i + 1)) = nB (rs.take i) + (if rs[i].kind = 1 then 1 else 0) := by
  rw [take_next' rs i hi]
  show List.countP _ (_ ++ [_]) = _
  rw [List.countP_append]
  congr 1
  simp [List.countP_cons]
theorem nE_take (rs : List RecM) {i : Nat} (hi : i < rs.length) : nE (rs.take (i + 1)) = nE (rs.take i) + (if rs[i].kind = 7 then 1 else 0) := by
  rw [take_next' rs i hi]
  show List.countP _ (_ ++ [_]) = _
  rw [List.countP_append]
  congr 1
  simp [List.countP_cons]
structure Lw (w wr : World) (fb : Nat) (a : Option Addr) (xs : List RX) (la : Option Addr) (nL lc : Nat) (vD : Value) (F : FoundM) : Prop where
  recs : RecsAt wr a xs
  f : Cells wr fb [.slice la nL lc, vD, .int .i64 F.fr, .int .i64 F.next]
  li : Lies wr la (rowsC lvC F.live)
  be : Below w.heap.size w wr
theorem Lw.below {w wr wz : World} {fb : Nat} {a : Option Addr} {xs : List RX} {la : Option Addr} {nL lc : Nat} {vD : Value} {F : FoundM} (h : Lw w wr fb a xs la nL lc vD F) (hb : Below wr.heap.size wr wz) : Lw w wz fb a xs la nL lc vD F := ⟨h.recs.below hb, h.f.below hb, h.li.below hb, h.be.trans (hb.mono h.be.size)⟩
set_option maxHeartbeats 16000000 in
theorem law_grows (ms : List Mv) (ma : Option Addr) (nM mc : Nat) (nn : Int) (w : World) (hm : Lies w ma (rowsC mvC ms)) (hn : nM = ms.length) : Calls Try.prog 3 #[.slice ma nM mc, .int .i64 nn] w fun e w' => e = .returned (.bool true) ∧ Below w.heap.size w w' := by
  have KG := hide (fun w' (hb : Below w.heap.size w w') => grown_any ms ma nM mc w' (hm.below hb) hn)
  clear hm hn
  go_enter Try.func3, Try.ntmps3
  go_upto_region 3 with (go_at_call 5; refine (awake_any _).mono ?_; rintro e w1 ⟨rfl, hb1⟩)
  have B1 := hide hb1
  clear hb1
  go_upto_region 6 with (go_at_call 6; refine (KG.out _ B1.out).mono ?_; unfold GrownPost; rintro e w2 ⟨v, xs, p, rfl, hlog, hre, -, h80, hb2⟩; obtain ⟨a, c, hv, hRA, hlc, hnil⟩ := hlog.form; subst hv; obtain ⟨n, hnn⟩ : ∃ n, n = xs.length := ⟨_, rfl⟩; rw [← hnn] at hlc h80 ⊢; have HRA := hide hRA; have HRE := hide hre; have HNN := hide hnn; have HLC := hide hlc; have HNI := hide hnil; have H80 := hide h80; have B2 := hide (B1.out.trans (hb2.mono B1.out.size)); clear hlog hre hb2 hRA hnn hlc hnil h80)
  have e1 : wrap64 ((n : Int) + 1) = ((n + 1 : Nat) : Int) := by have := H80.out; unfold wrap64; omega
  have e1' : IntKind.i64.wrap ((n : Int) + 1) = ((n + 1 : Nat) : Int) := by have := H80.out; rw [IntKind.wrap_i64]; omega
  have KR := hide (fun w' => rest_any nn (n + 1) (by omega) (by have := H80.out; omega) w')
  go_upto_region 7 with (go_at_call 7; refine (KR.out _).mono ?_; rintro e wz ⟨k, hk, rfl, rfl⟩; have hsl := slice_to17 a n c k w2 (by omega) HLC.out HNI.out)
  have HK := hide (show k ≤ n by omega)
  have R2 := hide (HRA.out.take k)
  obtain ⟨q, hq⟩ := HRE.out.take k
  have hq : Reach (rsOf (xs.take k)) q := by rw [show rsOf (xs.take k) = (rsOf xs).take k by simp [rsOf, List.map_take]]; exact hq
  have HKL := hide (show k = (xs.take k).length by rw [List.length_take, ← HNN.out]; have := HK.out; omega)
  have KN := hide (show k ≤ c ∧ k ≤ 80 by have := HK.out; have := HLC.out; have := H80.out; omega)
  have HQ := hide hq
  obtain ⟨FF, HFF⟩ : ∃ F, Hid (F = q.found) := ⟨_, hide rfl⟩
  generalize xs.take k = ys at *
  clear hsl KR hq HRA HRE HNN HLC hk HK e1 e1'
  have KU := hide (run_ok HQ.out HFF.out R2.out HKL.out (by have := KN.out; omega) KN.out.1 HNI.out)
  go_upto_region 8 with (go_at_call 8; refine KU.out.mono ?_; rintro e w3 ⟨la, nL, lc, da, nD, dc, rfl, hnL, hnD, hFO⟩; have HL := hide hnL; clear hnL hnD)
  refine named (P := Code.wp _ _ _ _) ?_
  intro w4 hw4
  obtain ⟨fb, hfb⟩ : ∃ b, b = w3.heap.size := ⟨_, rfl⟩
  have b34 : Below w3.heap.size w3 w4 := by rw [hw4]; exact alloc_below _ _
  have b24 := hFO.be.trans (b34.mono hFO.be.size)
  have L4 := hide (show Lw w w4 fb a ys la nL lc (.slice da nD dc) FF from ⟨R2.out.below b24, by rw [hw4, hfb]; exact Cells.new _ _ _, hFO.lies.1.below b34, B2.out.trans (b24.mono B2.out.size)⟩)
  rw [← hfb]
  clear hw4 hfb b34 b24 hFO KU R2 B2
  have GR := hide (reach_grown _ _ HQ.out)
  have hnL32 : nL ≤ 32 := by rw [HL.out, HFF.out]; exact GR.out.ok.few
  go_wp2_with (go_at_call 9; refine (num_eq _ _).mono ?_; rintro e wz ⟨rfl, rfl⟩)
  have hk80 := KN.out.2
  have LEN := hide (show (rsOf ys).length = k by simp; exact HKL.out.symm)
  go_loopw [11, 9, 10] (fun iv bv ev wr => ∃ (i : Nat), iv = .int .i64 (i : Int) ∧ bv = .int .i64 (nB ((rsOf ys).take i) : Int) ∧ ev = .int .i64 (nE ((rsOf ys).take i) : Int) ∧ i ≤ k ∧ Lw w wr fb a ys la nL lc (.slice da nD dc) FF) (fun iv _ _ _ => k + 1 - (intOf iv).toNat)
  case atStart => exact ⟨0, rfl, rfl, rfl, Nat.zero_le _, L4.out⟩
  case round =>
    clear L4
    obtain ⟨i, rfl, rfl, rfl, hi, hL⟩ := hrel
    have L0 := hide hL
    have hle1 : nB ((rsOf ys).take i) ≤ 80 := by have := countP_le' ((rsOf ys).take i); rw [List.length_take] at this; omega
    have hle2 : nE ((rsOf ys).take i) ≤ 80 := by have : nE ((rsOf ys).take i) ≤ ((rsOf ys).take i).length := List.countP_le_length; rw [List.length_take] at this; omega
    by_cases hlt : i < k
    · have hiy : i < ys.length := by rw [← HKL.out]; exact hlt
      have hir : i < (rsOf ys).length := by rw [LEN.out]; exact hlt
      have E1 := hide (nB_take (rsOf ys) hir)
      have E2 := hide (nE_take (rsOf ys) hir)
      have MEM := hide (List.getElem_mem hir)
      simp only [rsOf, List.getElem_map] at E1 E2 MEM
      obtain ⟨sb, so, hma, slt, sel⟩ := Lies.rowAt rxC 17 rx_len hL.recs.row i hiy (by decide)
      subst hma
      obtain ⟨b1, hb1⟩ : ∃ b, b = nB ((rsOf ys).take i) := ⟨_, rfl⟩
      obtain ⟨b2, hb2⟩ : ∃ b, b = nB ((rsOf ys).take (i + 1)) := ⟨_, rfl⟩
      obtain ⟨e1, he1⟩ : ∃ b, b = nE ((rsOf ys).take i) := ⟨_, rfl⟩
      obtain ⟨e2, he2⟩ : ∃ b, b = nE ((rsOf ys).take (i + 1)) := ⟨_, rfl⟩
      rw [← hb1] at hle1 ⊢
      rw [← he1] at hle2 ⊢
      simp only [rsOf] at hb1 hb2 he1 he2
      rw [← hb1, ← hb2] at E1
      rw [← he1, ← he2] at E2
      generalize hxx : ys[i] = x at *
      have c0 := sel 0 _ rfl
      have c1 := sel 1 _ rfl
      have c2 := sel 2 _ rfl
      have QF := hide (fun z (hz : z ∈ q.tb.L) => quiet_false GR.out MEM.out hz)
      have W1 : wrap64 ((b1 : Int) + 1) = (b1 : Int) + 1 := by unfold wrap64; omega
      have W2 : wrap64 ((e1 : Int) + 1) = (e1 : Int) + 1 := by unfold wrap64; omega
      rw [Nat.add_zero] at c0
      have HX2 := hide (show ys[i] = x from hxx)
      have hiy2 := hide hiy
      clear hL sel hxx hi
      by_cases k1 : x.r.kind = 1
      · have e1' : (x.r.kind == 1) = true := by simpa using k1
        have e7 : (x.r.kind == 7) = false := by simp; omega
        have BB := hide (show (nB ((rsOf ys).take (i + 1)) : Int) = (b1 : Int) + 1 by rw [← hb2, E1.out, if_pos k1]; omega)
        have EE := hide (show (nE ((rsOf ys).take (i + 1)) : Int) = (e1 : Int) by rw [← he2, E2.out, if_neg (by omega)]; omega)
        clear k1 E1 E2 hb1 hb2 he1 he2
        go_wp2_with fail
        go_loopw [12] (fun jv wz => ∃ (j : Nat), jv = .int .i64 (j : Int) ∧ j ≤ nL ∧ Lw w wz fb (some ⟨sb, so, none⟩) ys la nL lc (.slice da nD dc) FF) (fun jv _ => nL + 1 - (intOf jv).toNat)
        case atStart => first | exact ⟨0, rfl, Nat.zero_le _, L0.out⟩ | ((repeat apply Exists.intro); exact ⟨⟨0, rfl, Nat.zero_le _, L0.out⟩, rfl⟩)
        case round =>
          clear L0 c0 c1 c2
          obtain ⟨j, rfl, hj, hLz⟩ := hrel
          have LZ := hide hLz
          obtain ⟨f0, -⟩ := hLz.f.get 0 _ rfl
          by_cases hjl : j < nL
          · have hjF : j < FF.live.length := by rw [← HL.out]; exact hjl
            obtain ⟨tb2, to2, hta, tlt, tel⟩ := Lies.rowAt lvC 4 (fun _ => rfl) hLz.li j hjF (by decide)
            obtain ⟨sb', so', hsa, slt', sel'⟩ := Lies.rowAt rxC 17 rx_len hLz.recs.row i hiy2.out (by decide)
            cases hsa
            rw [HX2.out] at sel'
            have ZM := hide (show FF.live[j] ∈ q.tb.L by have : FF.live = q.tb.L := (by rw [HFF.out]; rfl); rw [← this]; exact List.getElem_mem hjF)
            subst hta
            have t0 := tel 0 _ rfl
            have t1 := tel 1 _ rfl
            rw [Nat.add_zero] at t0
            have c0 := sel' 0 _ rfl
            have c1 := sel' 1 _ rfl
            have c2 := sel' 2 _ rfl
            rw [Nat.add_zero] at c0
            have QZ := hide (QF.out _ ZM.out)
            generalize FF.live[j] = z at *
            clear tel sel' hLz
            cases ea : (x.r.tx == z.tx) with
            | true =>
              have eb := QZ.out.2 ea
              clear QZ
              go_upto_region 22 with fail
              go_quiet (fail)
              go_wp2_with fail
              go_roundw
              case rel => first | exact ⟨j + 1, by go_num, by omega, LZ.out.below (below_drewN (Below.refl _ _) _)⟩ | ((repeat apply Exists.intro); exact ⟨⟨j + 1, by go_num, by omega, LZ.out.below (below_drewN (Below.refl _ _) _)⟩, rfl⟩)
              case measure => simp [intOf]; omega
            | false =>
              clear QZ
              go_upto_region 22 with fail
              go_quiet (fail)
              go_wp2_with fail
              go_roundw
              case rel => first | exact ⟨j + 1, by go_num, by omega, LZ.out.below (below_drewN (Below.refl _ _) _)⟩ | ((repeat apply Exists.intro); exact ⟨⟨j + 1, by go_num, by omega, LZ.out.below (below_drewN (Below.refl _ _) _)⟩, rfl⟩)
              case measure => simp [intOf]; omega
          · obtain rfl : j = nL := by omega
            clear hLz
            go_wp2_with fail
            go_roundw
            case rel => first | exact ⟨i + 1, by go_num, by rw [BB.out], (by rw [EE.out]; try (rw [W2])), by omega, LZ.out⟩ | ((repeat apply Exists.intro); exact ⟨⟨i + 1, by go_num, by rw [BB.out], (by rw [EE.out]; try (rw [W2])), by omega, LZ.out⟩, rfl⟩)
            case measure => simp [intOf]; omega
      · have e1' : (x.r.kind == 1) = false := by simpa using k1
        by_cases k7 : x.r.kind = 7
        · have e7 : (x.r.kind == 7) = true := by simpa using k7
          have BB := hide (show (nB ((rsOf ys).take (i + 1)) : Int) = (b1 : Int) by rw [← hb2, E1.out, if_neg k1]; omega)
          have EE := hide (show (nE ((rsOf ys).take (i + 1)) : Int) = (e1 : Int) + 1 by rw [← he2, E2.out, if_pos k7]; omega)
          clear k1 k7 E1 E2 hb1 hb2 he1 he2
          go_wp2_with fail
          go_loopw [12] (fun jv wz => ∃ (j : Nat), jv = .int .i64 (j : Int) ∧ j ≤ nL ∧ Lw w wz fb (some ⟨sb, so, none⟩) ys la nL lc (.slice da nD dc) FF) (fun jv _ => nL + 1 - (intOf jv).toNat)
          case atStart => first | exact ⟨0, rfl, Nat.zero_le _, L0.out⟩ | ((repeat apply Exists.intro); exact ⟨⟨0, rfl, Nat.zero_le _, L0.out⟩, rfl⟩)
          case round =>
            clear L0 c0 c1 c2
            obtain ⟨j, rfl, hj, hLz⟩ := hrel
            have LZ := hide hLz
            obtain ⟨f0, -⟩ := hLz.f.get 0 _ rfl
            by_cases hjl : j < nL
            · have hjF : j < FF.live.length := by rw [← HL.out]; exact hjl
              obtain ⟨tb2, to2, hta, tlt, tel⟩ := Lies.rowAt lvC 4 (fun _ => rfl) hLz.li j hjF (by decide)
              obtain ⟨sb', so', hsa, slt', sel'⟩ := Lies.rowAt rxC 17 rx_len hLz.recs.row i hiy2.out (by decide)
              cases hsa
              rw [HX2.out] at sel'
              have ZM := hide (show FF.live[j] ∈ q.tb.L by have : FF.live = q.tb.L := (by rw [HFF.out]; rfl); rw [← this]; exact List.getElem_mem hjF)
              subst hta
              have t0 := tel 0 _ rfl
              have t1 := tel 1 _ rfl
              rw [Nat.add_zero] at t0
              have c0 := sel' 0 _ rfl
              have c1 := sel' 1 _ rfl
              have c2 := sel' 2 _ rfl
              rw [Nat.add_zero] at c0
              have QZ := hide (QF.out _ ZM.out)
              generalize FF.live[j] = z at *
              clear tel sel' hLz
              have ea := QZ.out.1 e7
              clear QZ
              go_upto_region 22 with fail
              go_quiet (fail)
              go_wp2_with fail
              go_roundw
              case rel => first | exact ⟨j + 1, by go_num, by omega, LZ.out.below (below_drewN (Below.refl _ _) _)⟩ | ((repeat apply Exists.intro); exact ⟨⟨j + 1, by go_num, by omega, LZ.out.below (below_drewN (Below.refl _ _) _)⟩, rfl⟩)
              case measure => simp [intOf]; omega
            · obtain rfl : j = nL := by omega
              clear hLz
              go_wp2_with fail
              go_roundw
              case rel => first | exact ⟨i + 1, by go_num, by rw [BB.out], (by rw [EE.out]; try (rw [W2])), by omega, LZ.out⟩ | ((repeat apply Exists.intro); exact ⟨⟨i + 1, by go_num, by rw [BB.out], (by rw [EE.out]; try (rw [W2])), by omega, LZ.out⟩, rfl⟩)
              case measure => simp [intOf]; omega
        · have e7 : (x.r.kind == 7) = false := by simpa using k7
          have BB := hide (show (nB ((rsOf ys).take (i + 1)) : Int) = (b1 : Int) by rw [← hb2, E1.out, if_neg k1]; omega)
          have EE := hide (show (nE ((rsOf ys).take (i + 1)) : Int) = (e1 : Int) by rw [← he2, E2.out, if_neg k7]; omega)
          clear k1 k7 E1 E2 hb1 hb2 he1 he2
          go_wp2_with fail
          go_loopw [12] (fun jv wz => ∃ (j : Nat), jv = .int .i64 (j : Int) ∧ j ≤ nL ∧ Lw w wz fb (some ⟨sb, so, none⟩) ys la nL lc (.slice da nD dc) FF) (fun jv _ => nL + 1 - (intOf jv).toNat)
          case atStart => first | exact ⟨0, rfl, Nat.zero_le _, L0.out⟩ | ((repeat apply Exists.intro); exact ⟨⟨0, rfl, Nat.zero_le _, L0.out⟩, rfl⟩)
          case round =>
            clear L0 c0 c1 c2
            obtain ⟨j, rfl, hj, hLz⟩ := hrel
            have LZ := hide hLz
            obtain ⟨f0, -⟩ := hLz.f.get 0 _ rfl
            by_cases hjl : j < nL
            · have hjF : j < FF.live.length := by rw [← HL.out]; exact hjl
              obtain ⟨tb2, to2, hta, tlt, tel⟩ := Lies.rowAt lvC 4 (fun _ => rfl) hLz.li j hjF (by decide)
              obtain ⟨sb', so', hsa, slt', sel'⟩ := Lies.rowAt rxC 17 rx_len hLz.recs.row i hiy2.out (by decide)
              cases hsa
              rw [HX2.out] at sel'
              have ZM := hide (show FF.live[j] ∈ q.tb.L by have : FF.live = q.tb.L := (by rw [HFF.out]; rfl); rw [← this]; exact List.getElem_mem hjF)
              subst hta
              have t0 := tel 0 _ rfl
              have t1 := tel 1 _ rfl
              rw [Nat.add_zero] at t0
              have c0 := sel' 0 _ rfl
              have c1 := sel' 1 _ rfl
              have c2 := sel' 2 _ rfl
              rw [Nat.add_zero] at c0
              have QZ := hide (QF.out _ ZM.out)
              generalize FF.live[j] = z at *
              clear tel sel' hLz
              cases ea : (x.r.tx == z.tx) with
              | true =>
                have eb := QZ.out.2 ea
                clear QZ
                go_upto_region 22 with fail
                go_quiet (fail)
                go_wp2_with fail
                go_roundw
                case rel => first | exact ⟨j + 1, by go_num, by omega, LZ.out.below (below_drewN (Below.refl _ _) _)⟩ | ((repeat apply Exists.intro); exact ⟨⟨j + 1, by go_num, by omega, LZ.out.below (below_drewN (Below.refl _ _) _)⟩, rfl⟩)
                case measure => simp [intOf]; omega
              | false =>
                clear QZ
                go_upto_region 22 with fail
                go_quiet (fail)
                go_wp2_with fail
                go_roundw
                case rel => first | exact ⟨j + 1, by go_num, by omega, LZ.out.below (below_drewN (Below.refl _ _) _)⟩ | ((repeat apply Exists.intro); exact ⟨⟨j + 1, by go_num, by omega, LZ.out.below (below_drewN (Below.refl _ _) _)⟩, rfl⟩)
                case measure => simp [intOf]; omega
            · obtain rfl : j = nL := by omega
              clear hLz
              go_wp2_with fail
              go_roundw
              case rel => first | exact ⟨i + 1, by go_num, by rw [BB.out], (by rw [EE.out]; try (rw [W2])), by omega, LZ.out⟩ | ((repeat apply Exists.intro); exact ⟨⟨i + 1, by go_num, by rw [BB.out], (by rw [EE.out]; try (rw [W2])), by omega, LZ.out⟩, rfl⟩)
              case measure => simp [intOf]; omega
    · obtain rfl : i = k := by omega
      have T1 := hide (show (rsOf ys).take i = rsOf ys from List.take_of_length_le (by rw [LEN.out]; exact Nat.le_refl _))
      rw [T1.out] at hle1 hle2 ⊢
      have gn := GR.out.next
      have gl := GR.out.len
      have enx : (FF.next == (nB (rsOf ys) : Int) + 1) = true := by have : FF.next = q.tb.next := (by rw [HFF.out]; rfl); rw [this, gn]; simp
      have enl : ((nL : Int) == (nB (rsOf ys) : Int) - (nE (rsOf ys) : Int)) = true := by have : nL = q.tb.L.length := (by rw [HL.out, HFF.out]; rfl); exact beq_iff_eq.2 (by omega)
      have w1' : wrap64 ((nB (rsOf ys) : Int) + 1) = (nB (rsOf ys) : Int) + 1 := by unfold wrap64; omega
      have w2' : wrap64 ((nB (rsOf ys) : Int) - (nE (rsOf ys) : Int)) = (nB (rsOf ys) : Int) - (nE (rsOf ys) : Int) := by unfold wrap64; omega
      obtain ⟨f0, -⟩ := hL.f.get 0 _ rfl
      obtain ⟨f3, -⟩ := hL.f.get 3 _ rfl
      clear gn gl hL
      generalize nB (rsOf ys) = bb at *
      generalize nE (rsOf ys) = ee at *
      generalize FF.next = nx at *
      go_wp2_with fail
      go_ret
      exact ⟨rfl, L0.out.be⟩
end Go.Proofs.Ytblngphjoafidaa
