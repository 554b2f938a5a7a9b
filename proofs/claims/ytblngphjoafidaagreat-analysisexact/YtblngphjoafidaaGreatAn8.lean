import Derived.Test.YtblngphjoafidaaGreatAn7
namespace Go.Proofs.YtblngphjoafidaaGreat
open Go.RowKit Go.QK Go.Maps Go.QM Go.QT
set_option maxRecDepth 100000
/-! Run. -/
theorem slice_from17 (a : Option Addr) (n cap k : Nat) (w : World) (h : k ≤ n) (h2 : n ≤ cap) (h4 : a = none → cap = 0) :
    (Instr.slice 22 (.slice a n cap) (some (.int .i64 k)) none none).run Tryz.prog w = .ok (.slice (if cap = k then a else a.map (fun x => x.add (k * 17))) (n - k) (cap - k)) w := by
  have ht := Tryz.underlying22
  have hz := Tryz.sizeOf55
  by_cases q : cap = k
  · subst q
    obtain rfl : n = cap := by omega
    rw [if_pos rfl]
    go_simp
  · have q' : ¬ k = cap := fun r => q r.symm
    rw [if_neg q]
    go_simp
theorem rowsC_drop {α : Type} (f : α → List Value) (n : Nat) (hf : ∀ x, (f x).length = n) (ls : List α) (k : Nat) : rowsC f (ls.drop k) = (rowsC f ls).drop (k * n) := by
  induction ls generalizing k with
  | nil => simp [rowsC]
  | cons l ls ih =>
    cases k with
    | zero => simp
    | succ k =>
      have := ih k
      simp only [rowsC, List.drop_succ_cons, List.flatMap_cons] at this ⊢
      rw [this, show (k + 1) * n = (f l).length + k * n by rw [hf]; rw [Nat.succ_mul]; omega]
      rw [← List.drop_drop, List.drop_left]
theorem rx_len : ∀ x : RX, (rxC x).length = 17 := fun _ => rfl
theorem rowsC_length {α : Type} (f : α → List Value) (n : Nat) (hf : ∀ x, (f x).length = n) (ls : List α) : (rowsC f ls).length = ls.length * n := by
  induction ls with
  | nil => simp [rowsC]
  | cons l ls ih =>
    simp only [rowsC, List.flatMap_cons, List.length_append, List.length_cons, hf] at ih ⊢
    rw [ih, Nat.succ_mul]; omega
theorem RecsAt.drop {w : World} {a : Option Addr} {xs : List RX} (h : RecsAt w a xs) {cap k : Nat} (hc : xs.length ≤ cap) : RecsAt w (if cap = k then a else a.map (fun x => x.add (k * 17))) (xs.drop k) := by
  refine ⟨?_, fun x hx => h.each x (List.mem_of_mem_drop hx)⟩
  by_cases q : xs.drop k = []
  · rw [q]; exact .inl rfl
  · have hlt : k < xs.length := by
      rcases Nat.lt_or_ge k xs.length with q1 | q1
      · exact q1
      · exact absurd (List.drop_eq_nil_of_le q1) q
    rw [if_neg (by omega)]
    rcases h.row with h1 | ⟨b, off, ha, hl, hcell⟩
    · have := rowsC_length rxC 17 rx_len xs
      rw [h1] at this
      simp at this
      omega
    · refine .inr ⟨b, off + k * 17, by rw [ha]; simp [addr_add], hl, fun i hi => ?_⟩
      have e := rowsC_drop rxC 17 rx_len xs k
      have hi' : k * 17 + i < (rowsC rxC xs).length := by
        rw [e, List.length_drop] at hi
        omega
      have := hcell (k * 17 + i) hi'
      rw [← Nat.add_assoc] at this
      rw [this]
      simp only [e, List.getElem_drop]
def RunPost (w : World) (rs : List RecM) (point : Int) (e : Ending) (w' : World) : Prop :=
  ∃ vL vD, e = .returned (.tuple #[.agg (fdA vL vD (runF rs point)), .int .i64 (runE rs point)]) ∧ FoundOut w w' vL vD (runF rs point)
theorem FoundOut.zero {w w' : World} (h : Below w.heap.size w w') : FoundOut w w' (.slice none 0 0) (.slice none 0 0) zeroF := ⟨World.ownsRow_nil _ _ _ _, World.ownsRow_nil _ _ _ _, h⟩
theorem runF_bad {rs : List RecM} {point : Int} (h : runE rs point ≠ 0) : runF rs point = zeroF := by unfold runF; rw [if_neg h]
theorem goP_drop {p : PassM} {rs : List RecM} {k : Nat} (hk : k < rs.length) : goP p (rs.drop k) = if p.noteE rs[k] = 0 then goP (p.step rs[k]) (rs.drop (k + 1)) else none := by
  rw [List.drop_eq_getElem_cons hk]
  rfl
abbrev zero4 : Array Value := #[.slice none 0 0, .slice none 0 0, .int .i64 0, .int .i64 0]
structure Lp (w wr : World) (rb b tb m : Nat) (p : PassM) : Prop where
  pp : PP wr b tb m p
  rc : Cells wr rb zero4.toList
  be : Below w.heap.size w wr
  lo : w.heap.size ≤ rb ∧ w.heap.size ≤ b ∧ w.heap.size ≤ tb ∧ w.heap.size ≤ m
  ne : rb ≠ b ∧ rb ≠ tb ∧ rb ≠ m
theorem Lp.below {w wr wz : World} {rb b tb m : Nat} {p : PassM} (h : Lp w wr rb b tb m p) (hb : Below wr.heap.size wr wz) : Lp w wz rb b tb m p := ⟨h.pp.below hb, h.rc.below hb, h.be.trans (hb.mono h.be.size), h.lo, h.ne⟩
set_option maxHeartbeats 8000000 in
theorem run_any (xs : List RX) (a : Option Addr) (n c : Nat) (point : Int) (w : World) (h : RecsAt w a xs) (hn : n = xs.length) (hm : n ≤ 1000000) (hc : n ≤ c) (hnil : a = none → c = 0) : Calls Tryz.prog 7 #[.slice a n c, .int .i64 point] w (RunPost w (rsOf xs) point) := by
  have KF := hide (fun w' (hq : Below w.heap.size w w') => faultOf_any xs a c w' (h.below hq) (by omega))
  rw [← hn] at KF
  have HX := hide h
  have HN := hide hn
  have HC := hide hc
  have HNI := hide hnil
  unfold RunPost
  obtain ⟨F, hF⟩ : ∃ F, F = faultE 1 (rsOf xs) := ⟨_, rfl⟩
  rw [← hF] at KF
  have HM := hide hm
  clear hc hnil
  by_cases hz : F = 0
  · have KB := hide (fun w' (hq : Below w.heap.size w w') => beg_any xs a n c point w' (h.below hq) hn hm (by rw [← hF]; exact hz))
    have e1 : (F != 0) = false := by simpa using hz
    have HZ := hide (show faultE 1 (rsOf xs) = 0 by rw [← hF]; exact hz)
    clear hF hz h hn hm
    cases hs : startP (rsOf xs) point with
    | none =>
      rw [hs] at KB
      have RE := hide (show runE (rsOf xs) point = 4 by unfold runE; rw [if_pos HZ.out, hs])
      have RF := hide (show runF (rsOf xs) point = zeroF from runF_bad (by rw [RE.out]; decide))
      rw [RE.out, RF.out]
      unfold BegPost at KB
      simp only at KB
      clear hs
      go_enter Tryz.func7, Tryz.ntmps7
      go_upto_region 1 with fail
      refine named (P := Code.wp _ _ _ _) ?_
      intro w1 hw1
      obtain ⟨rb, hrb⟩ : ∃ xb, xb = w.heap.size := ⟨_, rfl⟩
      have bb := alloc_below w (.cells zero4 34)
      rw [← hw1] at bb
      have X1 := hide (show Cells w1 rb zero4.toList by rw [hw1, hrb]; exact Cells.new _ _ _)
      have B1 := hide bb
      have HR := hide (show w.heap.size ≤ rb by rw [hrb]; exact Nat.le_refl _)
      rw [← hrb]
      clear hw1 hrb bb
      go_upto_region 4 with (go_at_call 15; refine (KF.out _ B1.out).mono ?_; rintro e w2 ⟨rfl, hb2⟩)
      have B2 := hide (B1.out.trans (hb2.mono B1.out.size))
      have X2 := hide (X1.out.below hb2)
      clear hb2
      go_upto_region 6 with (go_at_call 16; refine (KB.out _ B2.out).mono ?_; rintro e w3 ⟨rfl, hb3⟩)
      have B3 := hide (B2.out.trans (hb3.mono B2.out.size))
      have X3 := hide (X2.out.below hb3)
      clear hb3 X1 X2
      obtain ⟨z0, f0⟩ := X3.out.get 0 _ rfl
      obtain ⟨z1, f1⟩ := X3.out.get 1 _ rfl
      obtain ⟨z2, f2⟩ := X3.out.get 2 _ rfl
      obtain ⟨z3, f3⟩ := X3.out.get 3 _ rfl
      go_wp2_with fail
      obtain ⟨C6, K6⟩ := set4 X3.out (.slice none 0 0) (.slice none 0 0) (.int .i64 0) (.int .i64 0)
      clear z0 z1 z2 z3 f0 f1 f2 f3
      generalize ((((w3.setCell { block := rb, off := 0 } (Value.slice none 0 0)).setCell { block := rb, off := 1 } (Value.slice none 0 0)).setCell { block := rb, off := 2 } (Value.int IntKind.i64 0)).setCell { block := rb, off := 3 } (Value.int IntKind.i64 0)) = w6 at *
      obtain ⟨y0, -⟩ := C6.get 0 _ rfl
      obtain ⟨y1, -⟩ := C6.get 1 _ rfl
      obtain ⟨y2, -⟩ := C6.get 2 _ rfl
      obtain ⟨y3, -⟩ := C6.get 3 _ rfl
      have hout : FoundOut w w6 (.slice none 0 0) (.slice none 0 0) zeroF := FoundOut.zero (B3.out.trans (K6.below B3.out.size (fun z hz q => by have := HR.out; omega)))
      clear C6 K6
      exact bodyPost_ret (v := .tuple #[.agg (fdA (.slice none 0 0) (.slice none 0 0) zeroF), .int .i64 4]) (by simp [results, Tryz.results7, go_sem, y0, y1, y2, y3, fdA, zeroF]) rfl ⟨_, _, rfl, hout⟩
    | some p =>
      rw [hs] at KB
      unfold BegPost at KB
      simp only at KB
      have RE := hide (show runE (rsOf xs) point = (match goP p ((rsOf xs).drop point.toNat) with | some _ => 0 | none => 60) by unfold runE; rw [if_pos HZ.out, hs]; rfl)
      have RO := hide (show runO (rsOf xs) point = goP p ((rsOf xs).drop point.toNat) by unfold runO; rw [hs])
      obtain ⟨k, hk, hkn⟩ : ∃ k : Nat, point = (k : Int) ∧ k ≤ n := by
        have e := HN.out
        unfold startP at hs
        by_cases q0 : point = 0
        · exact ⟨0, q0, Nat.zero_le _⟩
        · rw [if_neg q0] at hs
          split at hs
          · cases hs
          · rename_i q1
            simp only [List.length_map] at q1
            exact ⟨point.toNat, by omega, by omega⟩
      subst hk
      simp only [Int.toNat_natCast] at RE RO
      clear hs
      have HK := hide hkn
      have SL := hide (fun w' => slice_from17 a n c k w' hkn HC.out HNI.out)
      obtain ⟨a', ha'⟩ : ∃ a', a' = (if c = k then a else a.map (fun x => x.add (k * 17))) := ⟨_, rfl⟩
      obtain ⟨n', hn'⟩ : ∃ n', n' = n - k := ⟨_, rfl⟩
      rw [← ha', ← hn'] at SL
      have DX := hide (show RecsAt w a' (xs.drop k) by rw [ha']; exact HX.out.drop (by rw [← HN.out]; exact HC.out))
      have HD := hide (show (rsOf xs).drop k = rsOf (xs.drop k) by simp [rsOf])
      have HN' := hide (show n' = (xs.drop k).length by rw [List.length_drop, ← HN.out]; exact hn')
      rw [HD.out] at RE RO
      have GD := hide (show ∀ x ∈ xs.drop k, GoodR x.r from fun x hx => by
        obtain ⟨i, hi, rfl⟩ := List.getElem_of_mem (List.mem_of_mem_drop hx)
        have := (fault_each HZ.out i (by simpa using hi)).2
        simpa using this)
      have hn'2 : n' ≤ 1000000 := by have := HM.out; omega
      clear ha' hn' hkn
      obtain ⟨EV, HEV⟩ : ∃ E, Hid (E = runE (rsOf xs) (k : Int)) := ⟨_, hide rfl⟩
      obtain ⟨FV, HFV⟩ : ∃ E, Hid (E = runF (rsOf xs) (k : Int)) := ⟨_, hide rfl⟩
      rw [← HEV.out, ← HFV.out]
      generalize hys : xs.drop k = ys at *
      clear hys
      go_enter Tryz.func7, Tryz.ntmps7
      go_upto_region 1 with fail
      refine named (P := Code.wp _ _ _ _) ?_
      intro w1 hw1
      obtain ⟨rb, hrb⟩ : ∃ xb, xb = w.heap.size := ⟨_, rfl⟩
      have bb := alloc_below w (.cells zero4 34)
      rw [← hw1] at bb
      have X1 := hide (show Cells w1 rb zero4.toList by rw [hw1, hrb]; exact Cells.new _ _ _)
      have B1 := hide bb
      have HR := hide (show w.heap.size ≤ rb by rw [hrb]; exact Nat.le_refl _)
      rw [← hrb]
      clear hw1 hrb bb
      go_upto_region 4 with (go_at_call 15; refine (KF.out _ B1.out).mono ?_; rintro e w2 ⟨rfl, hb2⟩)
      have B2 := hide (B1.out.trans (hb2.mono B1.out.size))
      have X2 := hide (X1.out.below hb2)
      clear hb2 B1 X1
      go_upto_region 7 with (go_at_call 16; refine (KB.out _ B2.out).mono ?_; rintro e w3 ⟨b, tb, m, rfl, hp3, hb, htb, hmm, hb3⟩)
      have L3 := hide (show Lp w w3 rb b tb m p from ⟨hp3, X2.out.below hb3, B2.out.trans (hb3.mono B2.out.size), ⟨HR.out, by have := B2.out.size; omega, by have := B2.out.size; omega, by have := B2.out.size; omega⟩, by have := X2.out.1; omega, by have := X2.out.1; omega, by have := X2.out.1; omega⟩)
      clear hp3 hb3 hb htb hmm X2 B2
      have sl3 := SL.out w3
      clear KF KB SL
      go_wp2_with fail
      clear sl3
      obtain ⟨G, HG⟩ : ∃ G, Hid (G = goP p (rsOf ys)) := ⟨_, hide rfl⟩
      rw [← HG.out] at RE RO
      go_loopw [32] (fun i wr => ∃ (j : Nat) (q : PassM), i = .int .i64 (j : Int) ∧ j ≤ n' ∧ G = goP q ((rsOf ys).drop j) ∧ Lp w wr rb b tb m q) (fun i _ => (n' + 1 - (intOf i).toNat))
      case atStart => exact ⟨0, p, rfl, by omega, by rw [HG.out]; rfl, L3.out⟩
      case round =>
        clear L3
        obtain ⟨j, q, rfl, hj, hG, hL⟩ := hrel
        have L0 := hide hL
        clear hL
        by_cases hlt : j < n'
        · have e2 : decide ((j : Int) < (n' : Int)) = true := by simp; omega
          have hjy : j < ys.length := by rw [← HN'.out]; exact hlt
          rw [goP_drop (by simpa using hjy)] at hG
          simp only [rsOf, List.getElem_map] at hG
          have D0 := hide (DX.out.below (L0.out.be.mono (Nat.le_refl _)))
          obtain ⟨sb, so, rfl, slt, sel⟩ := Lies.rowAt rxC 17 rx_len D0.out.row j hjy (by decide)
          have GX := hide (GD.out ys[j] (List.getElem_mem hjy))
          have H2 := hide hG
          clear hG D0
          generalize ys[j] = x at *
          obtain ⟨RA, hRA⟩ : ∃ A, A = rxA x := ⟨_, rfl⟩
          have SR := hide (show RA.size = 17 by rw [hRA]; rfl)
          have ON := hide (show RA.toList.all (·.oneCell') = true by rw [hRA]; rfl)
          have RC := hide (show ∀ j2 v, RA.toList[j2]? = some v → wr.cell? ⟨sb, so + j * 17 + j2, none⟩ = some v from fun j2 v hv => by rw [hRA] at hv; exact sel j2 v hv)
          have KR := hide (fun w' (hq : PP w' b tb m q) => read_any b tb m q x w' hq GX.out)
          rw [← hRA] at KR
          clear hRA sel
          go_upto_region 10 with (first | refine wpList_ld46At RC.out SR.out rfl ?_ | (refine wpList_store36 (cs := rec0) (RBox.new _ _ _) rfl SR.out ON.out rfl rfl ?_; intro w2 hb2 hk2))
          have R2 := hide hb2
          have L2 := hide (L0.out.below (newBox hk2))
          clear hb2 hk2 L0 RC
          go_upto_region 11 with (first | refine wpList_load36 R2.out SR.out rfl ?_ | (go_at_call 17; refine (KR.out _ L2.out.pp).mono ?_; unfold ReadPost; rintro e w4 ⟨rfl, hp4, hk4⟩))
          have B4 := hide (L2.out.be.trans (hk4.below L2.out.be.size (fun z hz q => by have := L2.out.lo; omega)))
          have X4 := hide (L2.out.rc.keep hk4 (fun q => by have := L2.out.ne; omega))
          have O4 := hide (show w.heap.size ≤ rb ∧ w.heap.size ≤ b ∧ w.heap.size ≤ tb ∧ w.heap.size ≤ m from L2.out.lo)
          have N4 := hide L2.out.ne
          clear hk4 L2 R2 KR
          by_cases hE : q.noteE x.r = 0
          · have L4 := hide (show Lp w w4 rb b tb m (q.step x.r) from ⟨hp4 hE, X4.out, B4.out, O4.out, N4.out⟩)
            have H3 := hide (show G = goP (q.step x.r) ((rsOf ys).drop (j + 1)) by rw [H2.out, if_pos hE])
            have eR : readE q x.r = 0 := by unfold readE; rw [if_pos hE]
            rw [eR]
            clear hp4 eR hE H2
            go_wp2_with fail
            go_roundw
            case rel => exact ⟨j + 1, q.step x.r, by go_num, by omega, H3.out, L4.out⟩
            case measure => simp [intOf]; omega
          · have H3 := hide (show G = none by rw [H2.out, if_neg hE])
            have eR : readE q x.r = 60 := by unfold readE; rw [if_neg hE]
            have RE2 := hide (show runE (rsOf xs) (k : Int) = 60 by rw [RE.out, H3.out])
            have RF := hide (show runF (rsOf xs) (k : Int) = zeroF from runF_bad (by rw [RE2.out]; decide))
            have GE := hide (show EV = 60 by rw [HEV.out, RE2.out])
            have GF := hide (show FV = zeroF by rw [HFV.out, RF.out])
            rw [eR]
            clear hp4 eR hE H2
            obtain ⟨z0, f0⟩ := X4.out.get 0 _ rfl
            obtain ⟨z1, f1⟩ := X4.out.get 1 _ rfl
            obtain ⟨z2, f2⟩ := X4.out.get 2 _ rfl
            obtain ⟨z3, f3⟩ := X4.out.get 3 _ rfl
            go_wp2_with fail
            obtain ⟨C6, K6⟩ := set4 X4.out (.slice none 0 0) (.slice none 0 0) (.int .i64 0) (.int .i64 0)
            clear z0 z1 z2 z3 f0 f1 f2 f3
            generalize ((((w4.setCell { block := rb, off := 0 } (Value.slice none 0 0)).setCell { block := rb, off := 1 } (Value.slice none 0 0)).setCell { block := rb, off := 2 } (Value.int IntKind.i64 0)).setCell { block := rb, off := 3 } (Value.int IntKind.i64 0)) = w6 at *
            obtain ⟨y0, -⟩ := C6.get 0 _ rfl
            obtain ⟨y1, -⟩ := C6.get 1 _ rfl
            obtain ⟨y2, -⟩ := C6.get 2 _ rfl
            obtain ⟨y3, -⟩ := C6.get 3 _ rfl
            have hout : FoundOut w w6 (.slice none 0 0) (.slice none 0 0) zeroF := FoundOut.zero (B4.out.trans (K6.below B4.out.size (fun z hz q => by have := HR.out; omega)))
            clear C6 K6
            exact bodyPost_ret (v := .tuple #[.agg (fdA (.slice none 0 0) (.slice none 0 0) zeroF), .int .i64 60]) (by simp [results, Tryz.results7, go_sem, y0, y1, y2, y3, fdA, zeroF]) rfl ⟨_, _, by rw [GE.out, GF.out], by rw [GF.out]; exact hout⟩
        · obtain rfl : j = n' := by omega
          have H3 := hide (show G = some q by rw [hG, List.drop_eq_nil_of_le (by simp [← HN'.out])]; rfl)
          have RE2 := hide (show runE (rsOf xs) (k : Int) = 0 by rw [RE.out, H3.out])
          have RF := hide (show runF (rsOf xs) (k : Int) = q.found by unfold runF; rw [if_pos RE2.out, RO.out, H3.out])
          have GE := hide (show EV = 0 by rw [HEV.out, RE2.out])
          have GF := hide (show FV = q.found by rw [HFV.out, RF.out])
          clear hG
          have KQ := hide (found_any b tb m q wr L0.out.pp)
          go_upto_region 14 with fail
          go_wp2_with fail
          refine KQ.out.mono ?_
          rintro e w4 ⟨vL, vD, rfl, hFO⟩
          have FO := hide hFO
          have X4 := hide (L0.out.rc.below hFO.be)
          obtain ⟨la, lc, hla, -⟩ := GRow.lies FO.out.live
          obtain ⟨da, dc, hda, -⟩ := GRow.lies FO.out.dirty
          subst hla hda
          clear hFO KQ
          obtain ⟨z0, f0⟩ := X4.out.get 0 _ rfl
          obtain ⟨z1, f1⟩ := X4.out.get 1 _ rfl
          obtain ⟨z2, f2⟩ := X4.out.get 2 _ rfl
          obtain ⟨z3, f3⟩ := X4.out.get 3 _ rfl
          go_wp2_with fail
          obtain ⟨C6, K6⟩ := set4 X4.out (.slice la q.found.live.length lc) (.slice da q.found.dirty.length dc) (.int .i64 q.found.fr) (.int .i64 q.found.next)
          clear z0 z1 z2 z3 f0 f1 f2 f3
          generalize ((((w4.setCell { block := rb, off := 0 } (Value.slice la q.found.live.length lc)).setCell { block := rb, off := 1 } (Value.slice da q.found.dirty.length dc)).setCell { block := rb, off := 2 } (Value.int IntKind.i64 q.found.fr)).setCell { block := rb, off := 3 } (Value.int IntKind.i64 q.found.next)) = w6 at *
          obtain ⟨y0, -⟩ := C6.get 0 _ rfl
          obtain ⟨y1, -⟩ := C6.get 1 _ rfl
          obtain ⟨y2, -⟩ := C6.get 2 _ rfl
          obtain ⟨y3, -⟩ := C6.get 3 _ rfl
          have hout : FoundOut w w6 (.slice la q.found.live.length lc) (.slice da q.found.dirty.length dc) q.found := by
            have hlt := L0.out.rc.1
            have hs := L0.out.be.size
            have hlo := L0.out.lo.1
            refine ⟨GRow.mono (GRow.keep FO.out.live K6 (fun g hg q => ?_)) hs, GRow.mono (GRow.keep FO.out.dirty K6 (fun g hg q => ?_)) hs, (L0.out.be.trans (FO.out.be.mono hs)).trans (K6.below (Nat.le_trans hs FO.out.be.size) (fun z hz q => by omega))⟩
            · have := (World.ownsRow.lt FO.out.live g hg).1; omega
            · have := (World.ownsRow.lt FO.out.dirty g hg).1; omega
          clear C6 K6
          exact bodyPost_ret (v := .tuple #[.agg (fdA (.slice la q.found.live.length lc) (.slice da q.found.dirty.length dc) q.found), .int .i64 0]) (by simp [results, Tryz.results7, go_sem, y0, y1, y2, y3, fdA]) rfl ⟨_, _, by rw [GE.out, GF.out], by rw [GF.out]; exact hout⟩
  · have e1 : (F != 0) = true := by simpa using hz
    have RE := hide (show runE (rsOf xs) point = F by unfold runE; rw [if_neg (by rw [← hF]; exact hz)]; exact hF.symm)
    have RF := hide (show runF (rsOf xs) point = zeroF from runF_bad (by rw [RE.out]; exact hz))
    rw [RE.out, RF.out]
    clear hF hz h hn hm
    go_enter Tryz.func7, Tryz.ntmps7
    go_upto_region 1 with fail
    refine named (P := Code.wp _ _ _ _) ?_
    intro w1 hw1
    obtain ⟨rb, hrb⟩ : ∃ xb, xb = w.heap.size := ⟨_, rfl⟩
    have bb := alloc_below w (.cells zero4 34)
    rw [← hw1] at bb
    have X1 := hide (show Cells w1 rb zero4.toList by rw [hw1, hrb]; exact Cells.new _ _ _)
    have B1 := hide bb
    have HR := hide (show w.heap.size ≤ rb by rw [hrb]; exact Nat.le_refl _)
    rw [← hrb]
    clear hw1 hrb bb
    go_upto_region 3 with (go_at_call 15; refine (KF.out _ B1.out).mono ?_; rintro e w2 ⟨rfl, hb2⟩)
    have B2 := hide (B1.out.trans (hb2.mono B1.out.size))
    have X2 := hide (X1.out.below hb2)
    clear hb2 X1
    obtain ⟨z0, f0⟩ := X2.out.get 0 _ rfl
    obtain ⟨z1, f1⟩ := X2.out.get 1 _ rfl
    obtain ⟨z2, f2⟩ := X2.out.get 2 _ rfl
    obtain ⟨z3, f3⟩ := X2.out.get 3 _ rfl
    go_wp2_with fail
    obtain ⟨C6, K6⟩ := set4 X2.out (.slice none 0 0) (.slice none 0 0) (.int .i64 0) (.int .i64 0)
    clear z0 z1 z2 z3 f0 f1 f2 f3
    generalize ((((w2.setCell { block := rb, off := 0 } (Value.slice none 0 0)).setCell { block := rb, off := 1 } (Value.slice none 0 0)).setCell { block := rb, off := 2 } (Value.int IntKind.i64 0)).setCell { block := rb, off := 3 } (Value.int IntKind.i64 0)) = w6 at *
    obtain ⟨y0, -⟩ := C6.get 0 _ rfl
    obtain ⟨y1, -⟩ := C6.get 1 _ rfl
    obtain ⟨y2, -⟩ := C6.get 2 _ rfl
    obtain ⟨y3, -⟩ := C6.get 3 _ rfl
    have hout : FoundOut w w6 (.slice none 0 0) (.slice none 0 0) zeroF := FoundOut.zero (B2.out.trans (K6.below B2.out.size (fun z hz q => by have := HR.out; omega)))
    clear C6 K6
    exact bodyPost_ret (v := .tuple #[.agg (fdA (.slice none 0 0) (.slice none 0 0) zeroF), .int .i64 F]) (by simp [results, Tryz.results7, go_sem, y0, y1, y2, y3, fdA, zeroF]) rfl ⟨_, _, rfl, hout⟩
end Go.Proofs.YtblngphjoafidaaGreat
