import Derived.Test.YtblngphjoafidaaGreatAn8
import Derived.Test.YtblngphjoafidaaGreatRChk2
import Derived.Test.YtblngphjoafidaaGreatTx24
set_option linter.all false
namespace Go.Proofs.YtblngphjoafidaaGreat
open Go.RowKit Go.QK Go.Maps Go.QM Go.QT
set_option maxRecDepth 100000
/-! The document's first step: right (19). -/
set_option maxHeartbeats 2000000 in
theorem right_any (xs : List RX) (a : Option Addr) (c : Nat) (w : World) (h : RecsAt w a xs) (hn : xs.length ≤ 1000000) :
    Calls Tryz.prog 19 #[.slice a xs.length c] w fun e w' => e = .returned (.int .i64 (faultE 1 (rsOf xs))) ∧ Below w.heap.size w w' := by
  obtain ⟨N, hN⟩ : ∃ N, N = xs.length := ⟨_, rfl⟩
  have HL := hide (show (rsOf xs).length = N by simp [hN])
  rw [← hN] at hn ⊢
  have HN := hide hN
  have HX := hide h
  clear h hN
  obtain ⟨T, HT⟩ : ∃ T, Hid (T = faultE 1 (rsOf xs)) := ⟨_, hide rfl⟩
  rw [← HT.out]
  go_enter Tryz.func19, Tryz.ntmps19
  go_wp2_with fail
  go_loopw [3] (fun i wr => ∃ (k : Nat), i = .int .i64 (k : Int) ∧ k ≤ N ∧ T = faultE ((k : Int) + 1) ((rsOf xs).drop k) ∧ Below w.heap.size w wr) (fun i _ => (N + 1 - (intOf i).toNat))
  case atStart => exact ⟨0, rfl, by omega, HT.out, Below.refl _ _⟩
  case round =>
    obtain ⟨k, rfl, hk, ht, hb⟩ := hrel
    have B0 := hide hb
    by_cases hlt : k < N
    · have e1 : decide ((k : Int) < (N : Int)) = true := by simp; omega
      have hlx : k < xs.length := by rw [← HN.out]; exact hlt
      rw [fault_drop (by rw [HL.out]; exact hlt)] at ht
      have HX1 := hide ((HX.out.below hb).each xs[k] (List.getElem_mem hlx))
      obtain ⟨sb, so, rfl, slt, sel⟩ := Lies.rowAt rxC 17 (fun _ => rfl) (HX.out.below hb).row k hlx (by decide)
      simp only [rsOf, List.getElem_map] at ht
      have H2 := hide ht
      clear ht hb
      generalize xs[k] = x at *
      have c0 := sel 0 _ rfl
      obtain ⟨RA, hRA⟩ : ∃ A, A = rxA x := ⟨_, rfl⟩
      have SR := hide (show RA.size = 17 by rw [hRA]; rfl)
      have RC := hide (show ∀ j v, RA.toList[j]? = some v → wr.cell? ⟨sb, so + k * 17 + j, none⟩ = some v from fun j v hv => by rw [hRA] at hv; exact sel j v hv)
      have KC := hide (rCheck_any x.r x.la x.da x.lc x.dc wr HX1.out.li HX1.out.di)
      have KC := hide (show Calls Tryz.prog 36 #[.agg RA] wr fun e w'' => e = .returned (.int .i64 ((chkE x.r : Nat) : Int)) ∧ Below wr.heap.size wr w'' by rw [hRA]; exact KC.out)
      clear hRA sel HX1
      simp only [Nat.add_zero] at c0
      generalize x.r.lsn = L at *
      generalize chkE x.r = E at *
      have ew : IntKind.i64.wrap ((k : Int) + 1) = (k : Int) + 1 := by rw [IntKind.wrap_i64]; omega
      by_cases hL : L = (k : Int) + 1
      · have e2 : (L != (k : Int) + 1) = false := by simpa using hL
        have H3 := hide (show T = if E = 0 then faultE ((k : Int) + 1 + 1) ((rsOf xs).drop (k + 1)) else (E : Int) by rw [H2.out, if_pos hL])
        clear H2 hL
        go_upto_region 7 with (first | refine wpList_ld46At RC.out SR.out rfl ?_ | (refine KC.out.mono ?_; rintro e w3 ⟨rfl, hb3⟩))
        have B4 := hide (B0.out.trans (hb3.mono B0.out.size))
        clear hb3 c0
        by_cases hE : E = 0
        · have e3 : ((E : Int) != 0) = false := by simp; omega
          have H4 := hide (show T = faultE ((k : Int) + 1 + 1) ((rsOf xs).drop (k + 1)) by rw [H3.out, if_pos hE])
          clear hE
          go_wp2_with fail
          go_roundw
          case rel => exact ⟨k + 1, by go_num, by omega, by rw [H4.out]; rfl, B4.out⟩
          case measure => simp [intOf]; omega
        · have e3 : ((E : Int) != 0) = true := by simp; omega
          have H4 := hide (show T = (E : Int) by rw [H3.out, if_neg hE])
          clear hE
          go_wp2_with fail
          go_ret
          exact ⟨by rw [H4.out]; rfl, B4.out⟩
      · have e2 : (L != (k : Int) + 1) = true := by simpa using hL
        have H3 := hide (show T = 60 by rw [H2.out, if_neg hL])
        clear H2 hL
        go_wp2_with fail
        go_ret
        exact ⟨by rw [H3.out]; rfl, B0.out⟩
    · obtain rfl : k = N := by omega
      have H3 := hide (show T = 0 by rw [ht, List.drop_eq_nil_of_le (by rw [HL.out]; omega)]; rfl)
      clear ht
      go_wp2_with fail
      go_ret
      exact ⟨by rw [H3.out]; rfl, B0.out⟩
end Go.Proofs.YtblngphjoafidaaGreat

set_option linter.all false
namespace Go.Proofs.YtblngphjoafidaaGreat
open Go.RowKit Go.QK Go.Maps Go.QM Go.QT
set_option maxRecDepth 100000
/-! The document's Pages (23). -/
def iC (z : Int) : List Value := [.int .i64 z]
def pagesL (r : RX) : List Int := if chg r.r.kind = false then [] else if r.r.wp = r.r.sp then [r.r.wp] else if r.r.wp < r.r.sp then [r.r.wp, r.r.sp] else [r.r.sp, r.r.wp]
def PagesPost (w : World) (r : RX) (e : Ending) (w' : World) : Prop := ∃ v, e = .returned v ∧ GRow w' w.heap.size 3 1 v (pagesL r).length (rowsC iC (pagesL r)) ∧ Below w.heap.size w w'
theorem chg_beq (k : Int) : chg k = ((k == 2) || ((k == 3) || (k == 4))) := by
  unfold chg
  rw [Bool.eq_iff_iff]
  simp [or_assoc]
set_option maxHeartbeats 2000000 in
theorem rchanges_any (r : RX) (w : World) : Calls Tryz.prog 40 #[.agg (rxA r)] w fun e w' => e = .returned (.bool (chg r.r.kind)) ∧ Below w.heap.size w w' := by
  obtain ⟨RA, hRA⟩ : ∃ A, A = rxA r := ⟨_, rfl⟩
  show Calls Tryz.prog 40 #[.agg (rxA r)] w _
  rw [← hRA]
  have CL := hide (show ∀ (x : World) (m : Nat), RBox x m 55 RA → x.cell? ⟨m, 1, none⟩ = some (.int .i64 r.r.kind) from fun x m q => by subst hRA; exact (q.cells.get 1 _ rfl).1)
  clear hRA
  generalize r.r.kind = k at *
  rw [chg_beq]
  by_cases h2 : (k == 2) = true
  · rw [h2]
    go_enter Tryz.func40, Tryz.ntmps40
    go_upto_region 1 with fail
    refine named (P := Code.wp _ _ _ _) ?_
    intro w1 hw1
    have B1 := hide (show Below w.heap.size w w1 by rw [hw1]; exact alloc_below _ _)
    have f1 := CL.out w1 w.heap.size (by rw [hw1]; exact RBox.new _ _ _)
    clear hw1
    go_wp2_with fail
    exact bodyPost_ret (v := .bool true) (by simp [results, Tryz.results40, go_sem]) rfl ⟨by simp, B1.out⟩
  · have h2' : (k == 2) = false := by simpa using h2
    clear h2
    by_cases h3 : (k == 3) = true
    · rw [h3, h2']
      go_enter Tryz.func40, Tryz.ntmps40
      go_upto_region 1 with fail
      refine named (P := Code.wp _ _ _ _) ?_
      intro w1 hw1
      have B1 := hide (show Below w.heap.size w w1 by rw [hw1]; exact alloc_below _ _)
      have f1 := CL.out w1 w.heap.size (by rw [hw1]; exact RBox.new _ _ _)
      clear hw1
      go_wp2_with fail
      exact bodyPost_ret (v := .bool true) (by simp [results, Tryz.results40, go_sem]) rfl ⟨by simp, B1.out⟩
    · have h3' : (k == 3) = false := by simpa using h3
      clear h3
      rw [h2', h3']
      go_enter Tryz.func40, Tryz.ntmps40
      go_upto_region 1 with fail
      refine named (P := Code.wp _ _ _ _) ?_
      intro w1 hw1
      have B1 := hide (show Below w.heap.size w w1 by rw [hw1]; exact alloc_below _ _)
      have f1 := CL.out w1 w.heap.size (by rw [hw1]; exact RBox.new _ _ _)
      clear hw1
      go_wp2_with fail
      exact bodyPost_ret (v := .bool (k == 4)) (by simp [results, Tryz.results40, go_sem]) rfl ⟨by simp, B1.out⟩
set_option maxHeartbeats 4000000 in
theorem rpages_no (r : RX) (w : World) (h1 : chg r.r.kind = false) : Calls Tryz.prog 23 #[.agg (rxA r)] w (PagesPost w r) := by
  have hL : pagesL r = [] := by unfold pagesL; rw [if_pos h1]
  unfold PagesPost
  rw [hL]
  clear hL
  have KC := fun w' => rchanges_any r w'
  rw [h1] at KC
  obtain ⟨RA, hRA⟩ : ∃ A, A = rxA r := ⟨_, rfl⟩
  have SR := hide (show RA.size = 17 by rw [hRA]; rfl)
  have CL := hide (show ∀ (u : World) (n : Nat), RBox u n 55 RA → u.cell? ⟨n, 4, none⟩ = some (.int .i64 r.r.wp) ∧ u.cell? ⟨n, 6, none⟩ = some (.int .i64 r.r.sp) from fun u n q => by subst hRA; exact ⟨(q.cells.get 4 _ rfl).1, (q.cells.get 6 _ rfl).1⟩)
  show Calls Tryz.prog 23 #[.agg (rxA r)] w _
  rw [← hRA] at KC ⊢
  clear hRA h1
  go_enter Tryz.func23, Tryz.ntmps23
  go_upto_region 1 with fail
  refine named (P := Code.wp _ _ _ _) ?_
  intro w1 hw1
  have B1 := hide (show Below w.heap.size w w1 by rw [hw1]; exact alloc_below _ _)
  have X1 := hide (show RBox w1 w.heap.size 55 RA by rw [hw1]; exact RBox.new _ _ _)
  obtain ⟨f4, f6⟩ := CL.out _ _ X1.out
  clear hw1 CL
  go_wp2_with (first | refine wpList_load36 X1.out SR.out rfl ?_ | (go_at_call 40; refine (KC _).mono ?_; rintro e w3 ⟨rfl, h3⟩))
  exact bodyPost_ret (v := .slice none 0 0) (by simp [results, Tryz.results23, go_sem]) rfl ⟨_, rfl, World.ownsRow_nil _ _ _ _, B1.out.trans (h3.mono B1.out.size)⟩
set_option maxHeartbeats 4000000 in
theorem rpages_one (r : RX) (w : World) (h1 : chg r.r.kind = true) (h2 : r.r.wp = r.r.sp) : Calls Tryz.prog 23 #[.agg (rxA r)] w (PagesPost w r) := by
  have hL : pagesL r = [r.r.wp] := by unfold pagesL; rw [if_neg (by simp [h1]), if_pos h2]
  unfold PagesPost
  rw [hL]
  clear hL
  have KC := fun w' => rchanges_any r w'
  rw [h1] at KC
  obtain ⟨RA, hRA⟩ : ∃ A, A = rxA r := ⟨_, rfl⟩
  have SR := hide (show RA.size = 17 by rw [hRA]; rfl)
  have CL := hide (show ∀ (u : World) (n : Nat), RBox u n 55 RA → u.cell? ⟨n, 4, none⟩ = some (.int .i64 r.r.wp) ∧ u.cell? ⟨n, 6, none⟩ = some (.int .i64 r.r.sp) from fun u n q => by subst hRA; exact ⟨(q.cells.get 4 _ rfl).1, (q.cells.get 6 _ rfl).1⟩)
  show Calls Tryz.prog 23 #[.agg (rxA r)] w _
  rw [← hRA] at KC ⊢
  clear hRA h1
  rw [← h2] at CL
  have hb : (r.r.wp == r.r.wp) = true := by simp
  clear h2
  go_enter Tryz.func23, Tryz.ntmps23
  go_upto_region 1 with fail
  refine named (P := Code.wp _ _ _ _) ?_
  intro w1 hw1
  have B1 := hide (show Below w.heap.size w w1 by rw [hw1]; exact alloc_below _ _)
  have X1 := hide (show RBox w1 w.heap.size 55 RA by rw [hw1]; exact RBox.new _ _ _)
  obtain ⟨f4, f6⟩ := CL.out _ _ X1.out
  clear hw1 CL
  go_wp2_with (first | refine wpList_load36 X1.out SR.out rfl ?_ | (go_at_call 40; refine (KC _).mono ?_; rintro e w3 ⟨rfl, h3⟩))
  have b3 := B1.out.trans (h3.mono B1.out.size)
  have G := World.ownsRow_lit (base := w.heap.size) (e := 3) (size := 1) w3 #[.int .i64 r.r.wp] 1 b3.size (by unfold maxLen; omega) rfl
  exact bodyPost_ret (v := .slice (some ⟨w3.heap.size, 0, none⟩) 1 1) (by simp [results, Tryz.results23, go_sem]) rfl ⟨_, rfl, G, b3.alloc b3.size _⟩
set_option maxHeartbeats 4000000 in
theorem rpages_lt (r : RX) (w : World) (h1 : chg r.r.kind = true) (h2 : r.r.wp < r.r.sp) : Calls Tryz.prog 23 #[.agg (rxA r)] w (PagesPost w r) := by
  have hL : pagesL r = [r.r.wp, r.r.sp] := by unfold pagesL; rw [if_neg (by simp [h1]), if_neg (by omega), if_pos h2]
  unfold PagesPost
  rw [hL]
  clear hL
  have KC := fun w' => rchanges_any r w'
  rw [h1] at KC
  obtain ⟨RA, hRA⟩ : ∃ A, A = rxA r := ⟨_, rfl⟩
  have SR := hide (show RA.size = 17 by rw [hRA]; rfl)
  have CL := hide (show ∀ (u : World) (n : Nat), RBox u n 55 RA → u.cell? ⟨n, 4, none⟩ = some (.int .i64 r.r.wp) ∧ u.cell? ⟨n, 6, none⟩ = some (.int .i64 r.r.sp) from fun u n q => by subst hRA; exact ⟨(q.cells.get 4 _ rfl).1, (q.cells.get 6 _ rfl).1⟩)
  show Calls Tryz.prog 23 #[.agg (rxA r)] w _
  rw [← hRA] at KC ⊢
  clear hRA h1
  have hb : (r.r.wp == r.r.sp) = false := by simp; omega
  have hc : decide (r.r.wp < r.r.sp) = true := decide_eq_true h2
  clear h2
  go_enter Tryz.func23, Tryz.ntmps23
  go_upto_region 1 with fail
  refine named (P := Code.wp _ _ _ _) ?_
  intro w1 hw1
  have B1 := hide (show Below w.heap.size w w1 by rw [hw1]; exact alloc_below _ _)
  have X1 := hide (show RBox w1 w.heap.size 55 RA by rw [hw1]; exact RBox.new _ _ _)
  obtain ⟨f4, f6⟩ := CL.out _ _ X1.out
  clear hw1 CL
  go_wp2_with (first | refine wpList_load36 X1.out SR.out rfl ?_ | (go_at_call 40; refine (KC _).mono ?_; rintro e w3 ⟨rfl, h3⟩))
  have b3 := B1.out.trans (h3.mono B1.out.size)
  have G := World.ownsRow_lit (base := w.heap.size) (e := 3) (size := 1) w3 #[.int .i64 r.r.wp, .int .i64 r.r.sp] 2 b3.size (by unfold maxLen; omega) rfl
  exact bodyPost_ret (v := .slice (some ⟨w3.heap.size, 0, none⟩) 2 2) (by simp [results, Tryz.results23, go_sem]) rfl ⟨_, rfl, G, b3.alloc b3.size _⟩
set_option maxHeartbeats 4000000 in
theorem rpages_gt (r : RX) (w : World) (h1 : chg r.r.kind = true) (h2 : r.r.sp < r.r.wp) : Calls Tryz.prog 23 #[.agg (rxA r)] w (PagesPost w r) := by
  have hL : pagesL r = [r.r.sp, r.r.wp] := by unfold pagesL; rw [if_neg (by simp [h1]), if_neg (by omega), if_neg (by omega)]
  unfold PagesPost
  rw [hL]
  clear hL
  have KC := fun w' => rchanges_any r w'
  rw [h1] at KC
  obtain ⟨RA, hRA⟩ : ∃ A, A = rxA r := ⟨_, rfl⟩
  have SR := hide (show RA.size = 17 by rw [hRA]; rfl)
  have CL := hide (show ∀ (u : World) (n : Nat), RBox u n 55 RA → u.cell? ⟨n, 4, none⟩ = some (.int .i64 r.r.wp) ∧ u.cell? ⟨n, 6, none⟩ = some (.int .i64 r.r.sp) from fun u n q => by subst hRA; exact ⟨(q.cells.get 4 _ rfl).1, (q.cells.get 6 _ rfl).1⟩)
  show Calls Tryz.prog 23 #[.agg (rxA r)] w _
  rw [← hRA] at KC ⊢
  clear hRA h1
  have hb : (r.r.wp == r.r.sp) = false := by simp; omega
  have hc : decide (r.r.wp < r.r.sp) = false := decide_eq_false (by omega)
  clear h2
  go_enter Tryz.func23, Tryz.ntmps23
  go_upto_region 1 with fail
  refine named (P := Code.wp _ _ _ _) ?_
  intro w1 hw1
  have B1 := hide (show Below w.heap.size w w1 by rw [hw1]; exact alloc_below _ _)
  have X1 := hide (show RBox w1 w.heap.size 55 RA by rw [hw1]; exact RBox.new _ _ _)
  obtain ⟨f4, f6⟩ := CL.out _ _ X1.out
  clear hw1 CL
  go_wp2_with (first | refine wpList_load36 X1.out SR.out rfl ?_ | (go_at_call 40; refine (KC _).mono ?_; rintro e w3 ⟨rfl, h3⟩))
  have b3 := B1.out.trans (h3.mono B1.out.size)
  have G := World.ownsRow_lit (base := w.heap.size) (e := 3) (size := 1) w3 #[.int .i64 r.r.sp, .int .i64 r.r.wp] 2 b3.size (by unfold maxLen; omega) rfl
  exact bodyPost_ret (v := .slice (some ⟨w3.heap.size, 0, none⟩) 2 2) (by simp [results, Tryz.results23, go_sem]) rfl ⟨_, rfl, G, b3.alloc b3.size _⟩
theorem rpages_any (r : RX) (w : World) : Calls Tryz.prog 23 #[.agg (rxA r)] w (PagesPost w r) := by
  cases h1 : chg r.r.kind with
  | false => exact rpages_no r w h1
  | true =>
    by_cases h2 : r.r.wp = r.r.sp
    · exact rpages_one r w h1 h2
    · by_cases h3 : r.r.wp < r.r.sp
      · exact rpages_lt r w h1 h3
      · exact rpages_gt r w h1 (by omega)
end Go.Proofs.YtblngphjoafidaaGreat

set_option linter.all false
namespace Go.Proofs.YtblngphjoafidaaGreat
open Go.RowKit Go.QK Go.Maps Go.QM Go.QT
set_option maxRecDepth 100000
/-! The document's Run (8): where it refuses. -/
set_option maxHeartbeats 4000000 in
theorem rrun_bad (xs : List RX) (a : Option Addr) (n c : Nat) (point : Int) (w : World) (h : RecsAt w a xs) (hn : n = xs.length) (hm : n ≤ 1000000) (hF : faultE 1 (rsOf xs) ≠ 0) : Calls Tryz.prog 8 #[.slice a n c, .int .i64 point] w (RunPost w (rsOf xs) point) := by
  have KF := hide (fun w' (hq : Below w.heap.size w w') => right_any xs a c w' (h.below hq) (by omega))
  rw [← hn] at KF
  have RE := hide (show runE (rsOf xs) point = faultE 1 (rsOf xs) by unfold runE; rw [if_neg hF])
  have RF := hide (show runF (rsOf xs) point = zeroF from runF_bad (by rw [RE.out]; exact hF))
  unfold RunPost
  rw [RE.out, RF.out]
  obtain ⟨F, hFF⟩ : ∃ F, F = faultE 1 (rsOf xs) := ⟨_, rfl⟩
  rw [← hFF] at KF hF ⊢
  have e1 : (F != 0) = true := by simpa using hF
  clear hF hFF RE RF h hn hm
  go_enter Tryz.func8, Tryz.ntmps8
  go_upto_region 1 with fail
  refine named (P := Code.wp _ _ _ _) ?_
  intro w1 hw1
  obtain ⟨rb, hrb⟩ : ∃ xb, xb = w.heap.size := ⟨_, rfl⟩
  have bb := alloc_below w (.cells zero4 38)
  rw [← hw1] at bb
  have X1 := hide (show Cells w1 rb zero4.toList by rw [hw1, hrb]; exact Cells.new _ _ _)
  have B1 := hide bb
  have HR := hide (show w.heap.size ≤ rb by rw [hrb]; exact Nat.le_refl _)
  rw [← hrb]
  clear hw1 hrb bb
  go_upto_region 3 with (go_at_call 19; refine (KF.out _ B1.out).mono ?_; rintro e w2 ⟨rfl, hb2⟩)
  have B2 := hide (B1.out.trans (hb2.mono B1.out.size))
  have X2 := hide (X1.out.below hb2)
  clear hb2 B1 X1
  obtain ⟨z0, f0⟩ := X2.out.get 0 _ rfl
  obtain ⟨z1, f1⟩ := X2.out.get 1 _ rfl
  obtain ⟨z2, f2⟩ := X2.out.get 2 _ rfl
  obtain ⟨z3, f3⟩ := X2.out.get 3 _ rfl
  go_wp2_with fail
  refine bodyPost_ret (v := .tuple #[.agg (fdA (.slice none 0 0) (.slice none 0 0) zeroF), .int .i64 F]) (by simp [results, Tryz.results8, go_sem, z0, z1, z2, z3, zeroF]) rfl ⟨_, _, rfl, FoundOut.zero ?_⟩
  exact (((B2.out.setCell HR.out _).setCell HR.out _).setCell HR.out _).setCell HR.out _
set_option maxHeartbeats 4000000 in
theorem rrun_place (xs : List RX) (a : Option Addr) (n c : Nat) (point : Int) (w : World) (h : RecsAt w a xs) (hn : n = xs.length) (hm : n ≤ 1000000) (hF : faultE 1 (rsOf xs) = 0) (hs : startP (rsOf xs) point = none) : Calls Tryz.prog 8 #[.slice a n c, .int .i64 point] w (RunPost w (rsOf xs) point) := by
  have KF := hide (fun w' (hq : Below w.heap.size w w') => right_any xs a c w' (h.below hq) (by omega))
  rw [← hn, hF] at KF
  have RE := hide (show runE (rsOf xs) point = 4 by unfold runE; rw [if_pos hF, hs])
  have RF := hide (show runF (rsOf xs) point = zeroF from runF_bad (by rw [RE.out]; decide))
  unfold RunPost
  rw [RE.out, RF.out]
  have e0 : ((0 : Int) != 0) = false := rfl
  have ln : (rsOf xs).length = n := by rw [List.length_map, hn]
  have HX := hide h
  have HN := hide hn
  have HM := hide hm
  have HS := hide hs
  clear h hn hF RE RF hm hs
  go_enter Tryz.func8, Tryz.ntmps8
  go_upto_region 1 with fail
  refine named (P := Code.wp _ _ _ _) ?_
  intro w1 hw1
  obtain ⟨rb, hrb⟩ : ∃ xb, xb = w.heap.size := ⟨_, rfl⟩
  have bb := alloc_below w (.cells zero4 38)
  rw [← hw1] at bb
  have X1 := hide (show Cells w1 rb zero4.toList by rw [hw1, hrb]; exact Cells.new _ _ _)
  have B1 := hide bb
  have HR := hide (show w.heap.size ≤ rb by rw [hrb]; exact Nat.le_refl _)
  rw [← hrb]
  clear hw1 hrb bb
  go_upto_region 4 with (go_at_call 19; refine (KF.out _ B1.out).mono ?_; rintro e w2 ⟨rfl, hb2⟩)
  have B2 := hide (B1.out.trans (hb2.mono B1.out.size))
  have X2 := hide (X1.out.below hb2)
  clear hb2 B1 X1
  go_upto_region 4 with fail
  go_cut [43] (fun s w' => s = .bool true ∧ w2 = w')
  case first =>
    by_cases h1 : point < 0
    · have d1 : decide (point < 0) = true := decide_eq_true h1
      go_wp2_with fail
      go_meet
      exact ⟨rfl, rfl⟩
    · have d1 : decide (point < 0) = false := decide_eq_false h1
      by_cases h2 : (n : Int) < point
      · have d2 : decide ((n : Int) < point) = true := decide_eq_true h2
        go_wp2_with fail
        go_meet
        exact ⟨rfl, rfl⟩
      · have d2 : decide ((n : Int) < point) = false := decide_eq_false h2
        by_cases h3 : 0 < point
        · have d3 : decide (0 < point) = true := decide_eq_true h3
          obtain ⟨q, rfl⟩ : ∃ q : Nat, point = (q : Int) + 1 := ⟨(point - 1).toNat, by omega⟩
          have hqn : q < n := by omega
          have hqx : q < xs.length := by rw [← HN.out]; exact hqn
          obtain ⟨sb, so, rfl, slt, sel⟩ := Lies.rowAt rxC 17 (fun _ => rfl) (HX.out.below B2.out).row q hqx (by decide)
          have c1 := sel 1 _ rfl
          have k8 : xs[q].r.kind ≠ 8 := fun e => by
            have := HS.out
            unfold startP at this
            rw [if_neg (by omega), if_neg (by rw [ln]; omega)] at this
            have e2 : ((q : Int) + 1 - 1).toNat = q := by omega
            rw [e2, List.getElem?_eq_getElem (by rw [ln]; exact hqn)] at this
            simp only [rsOf, List.getElem_map, e, if_true] at this
            cases this
          have e8 : (xs[q].r.kind != 8) = true := by simpa using k8
          have i1 : wrap64 ((q : Int) + 1 - 1) = (q : Int) := by have := HM.out; unfold wrap64; omega
          have i2 : IntKind.i64.wrap ((q : Int) + 1 - 1) = (q : Int) := by rw [IntKind.wrap_i64]; have := HM.out; omega
          have i3 : wrap64 (q : Int) = (q : Int) := by have := HM.out; unfold wrap64; omega
          have i4 : IntKind.i64.wrap (q : Int) = (q : Int) := by rw [IntKind.wrap_i64]; have := HM.out; omega
          have b3 : (q : Int) < (n : Int) := by omega
          generalize xs[q].r.kind = kk at *
          clear sel k8 slt
          go_wp2_with fail
          go_meet
          exact ⟨rfl, rfl⟩
        · exfalso
          have p0 : point = 0 := by omega
          have := HS.out
          unfold startP at this
          rw [if_pos p0] at this
          cases this
  case rest =>
    obtain ⟨rfl, rfl⟩ := hcut
    obtain ⟨z0, f0⟩ := X2.out.get 0 _ rfl
    obtain ⟨z1, f1⟩ := X2.out.get 1 _ rfl
    obtain ⟨z2, f2⟩ := X2.out.get 2 _ rfl
    obtain ⟨z3, f3⟩ := X2.out.get 3 _ rfl
    go_wp2_with fail
    refine bodyPost_ret (v := .tuple #[.agg (fdA (.slice none 0 0) (.slice none 0 0) zeroF), .int .i64 4]) (by simp [results, Tryz.results8, go_sem, z0, z1, z2, z3, zeroF]) rfl ⟨_, _, rfl, FoundOut.zero ?_⟩
    exact (((B2.out.setCell HR.out _).setCell HR.out _).setCell HR.out _).setCell HR.out _
end Go.Proofs.YtblngphjoafidaaGreat

set_option linter.all false
namespace Go.Proofs.YtblngphjoafidaaGreat
open Go.RowKit Go.QK Go.Maps Go.QM Go.QT
set_option maxRecDepth 100000
/-! The document's Run: what lies in memory while it goes; how its pages are the marks. -/
theorem sg_set {s : Nat → Int} {n : Nat} (hn : n < 64) (h0 : s n = 0) (l : Int) : (sgC s).set n (.int .i64 l) = sgC (mark s (n : Int) l) := by
  apply List.ext_getElem?
  intro i
  by_cases hi : i < 64
  · rw [List.getElem?_set]
    by_cases q : n = i
    · subst q
      rw [if_pos rfl, if_pos (by simp [sgC]; omega), sgC_get _ hi]
      simp [mark, h0]
    · rw [if_neg q, sgC_get _ hi, sgC_get _ hi]
      have : ¬ ((i : Int) = (n : Int)) := by omega
      simp [mark, this]
  · rw [List.getElem?_eq_none (by simp [sgC]; omega), List.getElem?_eq_none (by simp [sgC]; omega)]
theorem marks_other {s : Nat → Int} {ds : List DirtyM} {i : Nat} (h : ∀ d ∈ ds, d.page ≠ (i : Int)) : marks s ds i = s i := by
  induction ds generalizing s with
  | nil => rfl
  | cons d ds ih =>
    show marks (mark s d.page d.since) ds i = s i
    rw [ih (fun x hx => h x (List.mem_cons_of_mem _ hx))]
    have := h d List.mem_cons_self
    unfold mark
    rw [if_neg (fun q => this q.1.symm)]
theorem dirty_rise {lsn least : Int} {ds : List DirtyM} (h : dirtyB lsn least ds = true) : ds.Pairwise (fun a b => a.page < b.page) ∧ ∀ d ∈ ds, least ≤ d.page := by
  induction ds generalizing least with
  | nil => exact ⟨List.Pairwise.nil, nofun⟩
  | cons x ds ih =>
    simp only [dirtyB, Bool.and_eq_true] at h
    obtain ⟨⟨h1, -⟩, h3⟩ := h
    have h1 := fromB_iff.1 h1
    obtain ⟨i1, i2⟩ := ih h3
    refine ⟨List.pairwise_cons.2 ⟨fun d hd => by have := i2 d hd; omega, i1⟩, fun d hd => ?_⟩
    rcases List.mem_cons.1 hd with rfl | q
    · exact h1.1
    · have := i2 d q; omega
theorem GoodR.rise {r : RecM} (h : GoodR r) (hk : r.kind = 8) : r.dirty.Pairwise (fun a b => a.page < b.page) := by
  have := h.ok
  simp only [okB, Bool.and_eq_true] at this
  have h1 := this.2
  have hp : hPts r.kind = true := by simp [hPts, hk]
  rw [hp] at h1
  simp only [pointsB, cond_true, Bool.and_eq_true, decide_eq_true_eq] at h1
  exact (dirty_rise h1.2.2).1
/-- A page that no earlier one of the list names is not marked yet. -/
theorem marks_fresh {ds : List DirtyM} (h : ds.Pairwise (fun a b => a.page < b.page)) {k n : Nat} (hk : k < ds.length) (hn : ds[k].page = (n : Int)) : marks (fun _ => 0) (ds.take k) n = 0 := by
  refine marks_other (fun d hd q => ?_)
  obtain ⟨j, hj, rfl⟩ := List.getElem_of_mem hd
  rw [List.length_take] at hj
  rw [List.getElem_take] at q
  have := List.pairwise_iff_getElem.1 h j k (by omega) hk (by omega)
  omega
def markP (s : Nat → Int) (l : Int) : List Int → Nat → Int
  | [] => s
  | p :: ps => markP (mark s p l) l ps
theorem markP_snoc (s : Nat → Int) (l : Int) (ps : List Int) (p : Int) : markP s l (ps ++ [p]) = mark (markP s l ps) p l := by
  induction ps generalizing s with
  | nil => rfl
  | cons q ps ih => exact ih (mark s q l)
theorem mark_comm (s : Nat → Int) (p q l : Int) : mark (mark s p l) q l = mark (mark s q l) p l := by
  funext i
  unfold mark
  grind
theorem mark_twice (s : Nat → Int) (p l : Int) : mark (mark s p l) p l = mark s p l := by
  funext i
  unfold mark
  by_cases h1 : (i : Int) = p <;> by_cases h3 : s i = 0 <;> simp [h1, h3]
theorem pages_marks (x : RX) (s : Nat → Int) : markP s x.r.lsn (pagesL x) = stepPg s x.r := by
  unfold pagesL stepPg
  cases h : chg x.r.kind with
  | false => simp [markP]
  | true =>
    simp only [Bool.true_eq_false, if_false, if_true]
    by_cases h1 : x.r.wp = x.r.sp
    · rw [if_pos h1, ← h1, mark_twice]; rfl
    · rw [if_neg h1]
      by_cases h2 : x.r.wp < x.r.sp
      · rw [if_pos h2]; rfl
      · rw [if_neg h2]
        show mark (mark s x.r.sp x.r.lsn) x.r.wp x.r.lsn = _
        rw [mark_comm]
theorem pages_in {x : RX} (h : GoodR x.r) : (∀ p ∈ pagesL x, 0 ≤ p ∧ p ≤ 63) ∧ (pagesL x).length ≤ 2 := by
  unfold pagesL
  cases hc : chg x.r.kind with
  | false => simp
  | true =>
    obtain ⟨a, b, c, d⟩ := h.pages hc
    simp only [Bool.true_eq_false, if_false]
    split
    · simp; omega
    · split <;> simp <;> omega
/-- The document's table, its array of pages, its result's variable. -/
structure Rn (w wr : World) (rb tb sb : Nat) (tv : Value) (p : PassM) : Prop where
  rc : Cells wr rb zero4.toList
  rt : RT wr w.heap.size tb tv p.tb
  sc : Cells wr sb (sgC p.pg)
  be : Below w.heap.size w wr
  lo : w.heap.size ≤ rb ∧ w.heap.size ≤ sb
  ne : rb ≠ sb ∧ rb ≠ tb ∧ sb ≠ tb
  nv : ∀ g, tv.ownBlock = some g → g ≠ rb ∧ g ≠ sb
theorem Rn.below {w wr wz : World} {rb tb sb : Nat} {tv : Value} {p : PassM} (h : Rn w wr rb tb sb tv p) (k : Below wr.heap.size wr wz) : Rn w wz rb tb sb tv p := ⟨h.rc.below k, h.rt.below k, h.sc.below k, h.be.trans (k.mono h.be.size), h.lo, h.ne, h.nv⟩
/-- A page is marked. -/
theorem Rn.mark {w wr : World} {rb tb sb : Nat} {tv : Value} {t : TbM} {s : Nat → Int} (h : Rn w wr rb tb sb tv ⟨t, s⟩) {n : Nat} (hn : n < 64) (h0 : s n = 0) (l : Int) : Rn w (wr.setCell ⟨sb, n, none⟩ (.int .i64 l)) rb tb sb tv ⟨t, mark s (n : Int) l⟩ := by
  have k := (Keep.refl (fun z => z = sb) wr).setCell (g := sb) (j := n) (fun _ => rfl) (.int .i64 l)
  have c := h.sc.stored (j := n) (by simp [sgC]; omega) (.int .i64 l)
  rw [sg_set hn h0] at c
  obtain ⟨n1, n2, n3⟩ := h.ne
  have lo := h.lo
  exact ⟨h.rc.keep k n1, h.rt.keep k (fun q => n3 q.symm) (fun g hg q => (h.nv g hg).2 q), c, h.be.trans (k.below h.be.size (fun z hz q => by omega)), h.lo, h.ne, h.nv⟩
/-- The table has noted a record. -/
theorem Rn.noted {w wr wz : World} {rb tb sb : Nat} {tv : Value} {t t' : TbM} {s : Nat → Int} (h : Rn w wr rb tb sb tv ⟨t, s⟩) (q : RPost w.heap.size tb tv t' wr wz) : ∃ tv', Rn w wz rb tb sb tv' ⟨t', s⟩ := by
  obtain ⟨v', h1, h2, h3⟩ := q
  obtain ⟨n1, n2, n3⟩ := h.ne
  have lo := h.lo
  have low := h.rt.low
  have rl := World.ownsRow.lt h.rt.row
  have off : ∀ z, z = rb ∨ z = sb → ¬ (z = tb ∨ tv.ownBlock = some z) := fun z hz q => by
    rcases q with q | q
    · rcases hz with e | e <;> omega
    · rcases hz with e | e
      · exact (h.nv z q).1 e
      · exact (h.nv z q).2 e
  refine ⟨v', h.rc.keep h3 (off _ (.inl rfl)), h1, h.sc.keep h3 (off _ (.inr rfl)), h.be.trans (h3.below h.be.size (fun z hz q => ?_)), h.lo, h.ne, fun g hg => ?_⟩
  · rcases q with q | q
    · omega
    · have := (rl z q).1; omega
  · rcases h2 g hg with e | e
    · exact h.nv g e
    · have a := h.rc.1
      have b := h.sc.1
      constructor <;> omega
/-- What it has found, while it is gathered. -/
structure Fd (w wz : World) (rb sb fb : Nat) (vL vD : Value) (L : List Lv) (s : Nat → Int) (D : List DirtyM) (l nx : Int) : Prop where
  fc : Cells wz fb [vL, vD, .int .i64 l, .int .i64 nx]
  lr : GRow wz w.heap.size 58 4 vL L.length (rowsC lvC L)
  dr : GRow wz w.heap.size 60 2 vD D.length (dirtyCs D)
  sc : Cells wz sb (sgC s)
  rc : Cells wz rb zero4.toList
  be : Below w.heap.size w wz
  lo : w.heap.size ≤ fb ∧ w.heap.size ≤ rb
  ne : fb ≠ sb ∧ fb ≠ rb ∧ rb ≠ sb
  nl : ∀ g, vL.ownBlock = some g → g ≠ fb ∧ g ≠ sb ∧ g ≠ rb
  nd : ∀ g, vD.ownBlock = some g → g ≠ fb ∧ g ≠ sb ∧ g ≠ rb ∧ vL.ownBlock ≠ some g
theorem Fd.below {w wz w' : World} {rb sb fb : Nat} {vL vD : Value} {L : List Lv} {s : Nat → Int} {D : List DirtyM} {l nx : Int} (h : Fd w wz rb sb fb vL vD L s D l nx) (b : Below wz.heap.size wz w') : Fd w w' rb sb fb vL vD L s D l nx := ⟨h.fc.below b, GRow.below h.lr b, GRow.below h.dr b, h.sc.below b, h.rc.below b, h.be.trans (b.mono h.be.size), h.lo, h.ne, h.nl, h.nd⟩
theorem told_skip {s : Nat → Int} {k : Nat} (h0 : s k = 0) : toldL s (k + 1) = toldL s k ∧ leastL s (k + 1) = leastL s k := by
  refine ⟨?_, by rw [least_step, if_neg (fun q => q.1 h0)]⟩
  show toldL s k ++ _ = _
  rw [if_pos h0, List.append_nil]
theorem told_more {s : Nat → Int} {k : Nat} {y : Int} (hy : s k = y) (h0 : y ≠ 0) : toldL s (k + 1) = toldL s k ++ [⟨(k : Int), y⟩] := by
  show toldL s k ++ _ = _
  rw [if_neg (by rw [hy]; exact h0), hy]
theorem told_len2 (s : Nat → Int) (k : Nat) : (toldL s k).length ≤ k := by
  induction k with
  | zero => exact Nat.le_refl _
  | succ k ih =>
    show (toldL s k ++ _).length ≤ _
    rw [List.length_append]
    split <;> simp <;> omega
theorem lies_lit2 (w : World) (cs : Array Value) (t : TypeId) : Lies (w.alloc (.cells cs t)) (some ⟨w.heap.size, 0, none⟩) cs.toList := by
  have h := Cells.new w cs t
  refine .inr ⟨w.heap.size, 0, rfl, h.1, fun i hi => ?_⟩
  have q := (h.2 i (by simpa using hi)).1
  rw [Nat.zero_add]
  exact q
/-- One dirty page more is put behind the list, and the list stored. -/
theorem Fd.push {w wz : World} {rb sb fb : Nat} {vL vD : Value} {L : List Lv} {s : Nat → Int} {D : List DirtyM} {l nx : Int} (h : Fd w wz rb sb fb vL vD L s D l nx) (hD : D.length ≤ 1000) (p y : Int) (t : TypeId) (ty : TypeId) : ∃ an cn x4, (Builtin.append_ #[32, 32] ty #[vD, .slice (some ⟨wz.heap.size, 0, none⟩) 1 1]).run Tryz.prog (wz.alloc (.cells #[.int .i64 p, .int .i64 y] t)) = .ok (.slice an (D.length + 1) cn) x4 ∧ (x4.cell? ⟨fb, 1, none⟩ = some vD ∧ x4.frozen? ⟨fb, 1, none⟩ = false) ∧ Fd w (x4.setCell ⟨fb, 1, none⟩ (.slice an (D.length + 1) cn)) rb sb fb vL (.slice an (D.length + 1) cn) L s (D ++ [⟨p, y⟩]) l nx ∧ Cells x4 sb (sgC s) := by
  have al := alloc_below wz (.cells #[.int .i64 p, .int .i64 y] t)
  obtain ⟨vn, x4, hrun, q1, q2, q3⟩ := run_pushR Tryz.underlying32 info52 rfl (by decide) (by decide) ty (wz.alloc (.cells #[.int .i64 p, .int .i64 y] t)) w.heap.size vD D.length (dirtyCs D) (GRow.below h.dr al) ⟨wz.heap.size, 0, none⟩ 1 1 (dirtyCs [⟨p, y⟩]) rfl (lies_lit2 wz #[.int .i64 p, .int .i64 y] t) (dirtyCs_one _) (by omega) (by have := h.be.size; simp; omega)
  obtain ⟨an, cn, rfl, -⟩ := GRow.lies q1
  have k1 : Keep (fun z => vD.ownBlock = some z) wz x4 := (Keep.of_below al).trans (grown_keep q2) (fun j _ q => q)
  have k2 := (Keep.refl (fun z => z = fb) x4).setCell (g := fb) (j := 1) (fun _ => rfl) (.slice an (D.length + 1) cn)
  obtain ⟨n1, n2, n3⟩ := h.ne
  have lo := h.lo
  have dl := World.ownsRow.lt h.dr
  have ll := World.ownsRow.lt h.lr
  have q3' : (Value.slice an (D.length + 1) cn).ownBlock = vD.ownBlock ∨ (Value.slice an (D.length + 1) cn).ownBlock = some (wz.heap.size + 1) := by
    rcases q3 with q | q
    · exact .inl q
    · exact .inr (by rw [q]; simp)
  have fcx := h.fc.keep k1 (fun q => (h.nd _ q).1 rfl)
  have fl := h.fc.1
  have sl := h.sc.1
  have rl := h.rc.1
  have own : ∀ g, (Value.slice an (D.length + 1) cn).ownBlock = some g → g ≠ fb ∧ g ≠ sb ∧ g ≠ rb ∧ vL.ownBlock ≠ some g := fun g hg => by
    rcases q3' with q | q
    · rw [q] at hg; exact h.nd g hg
    · rw [q] at hg
      cases hg
      exact ⟨by omega, by omega, by omega, fun e => by have := (ll _ e).2; omega⟩
  have b1 : Below w.heap.size wz x4 := k1.below h.be.size (fun z hz q => by have := (dl z q).1; omega)
  have g1 : GRow x4 w.heap.size 60 2 (.slice an (D.length + 1) cn) (D ++ [(⟨p, y⟩ : DirtyM)]).length (dirtyCs (D ++ [⟨p, y⟩])) := by
    rw [List.length_append, dirtyCs_append]; exact q1
  have bx := h.be.trans b1
  refine ⟨an, cn, x4, hrun, fcx.get 1 _ rfl, ⟨?_, GRow.keep (GRow.keep h.lr k1 (fun g hg q => (h.nd g q).2.2.2 hg)) k2 (fun g hg => (h.nl g hg).1), GRow.keep g1 k2 (fun g hg => (own g hg).1), (h.sc.keep k1 (fun q => (h.nd _ q).2.1 rfl)).keep k2 (fun q => n1 q.symm), (h.rc.keep k1 (fun q => (h.nd _ q).2.2.1 rfl)).keep k2 (fun q => n2 q.symm), bx.trans (k2.below bx.size (fun z hz q => by omega)), h.lo, h.ne, h.nl, own⟩, h.sc.keep k1 (fun q => (h.nd _ q).2.1 rfl)⟩
  have := fcx.stored (j := 1) (by simp) (.slice an (D.length + 1) cn)
  simpa using this
theorem Fd.least {w wz : World} {rb sb fb : Nat} {vL vD : Value} {L : List Lv} {s : Nat → Int} {D : List DirtyM} {l nx : Int} (h : Fd w wz rb sb fb vL vD L s D l nx) (y : Int) : Fd w (wz.setCell ⟨fb, 2, none⟩ (.int .i64 y)) rb sb fb vL vD L s D y nx := by
  have k2 := (Keep.refl (fun z => z = fb) wz).setCell (g := fb) (j := 2) (fun _ => rfl) (.int .i64 y)
  obtain ⟨n1, n2, n3⟩ := h.ne
  have lo := h.lo
  refine ⟨?_, GRow.keep h.lr k2 (fun g hg => (h.nl g hg).1), GRow.keep h.dr k2 (fun g hg => (h.nd g hg).1), h.sc.keep k2 (fun q => n1 q.symm), h.rc.keep k2 (fun q => n2 q.symm), h.be.trans (k2.below h.be.size (fun z hz q => by omega)), h.lo, h.ne, h.nl, h.nd⟩
  have := h.fc.stored (j := 2) (by simp) (.int .i64 y)
  simpa using this
end Go.Proofs.YtblngphjoafidaaGreat
