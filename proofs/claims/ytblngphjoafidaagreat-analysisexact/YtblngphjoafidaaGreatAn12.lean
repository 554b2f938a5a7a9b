import Derived.Test.YtblngphjoafidaaGreatAn11
namespace Go.Proofs.YtblngphjoafidaaGreat
open Go.RowKit Go.QK Go.Maps Go.QM Go.QT
set_option maxRecDepth 100000
theorem info46 : (Tryz.prog.info? 55).map (fun i => (i.zero, i.size, i.bytes)) = some (some (.agg rec0), 17, 168) := by kernel_rfl
section
variable {ops : Array Oper} {rest : List Oper} {a : Act} {w : World} {Q : Exit → Act → World → Prop} {d : Option Tmp} {ty : TypeId} {ps : String} {af : Array Edge} {x y z : Operand}
theorem wpList_b3 (hx : a.eval x = .agg (rxA ax1)) (hy : a.eval y = .agg (rxA ax2)) (hz : a.eval z = .agg (rxA ax3)) (h : wpList Tryz.prog ops Q rest (a.put d (.slice (some ⟨w.heap.size, 0, none⟩) 3 3)) (w.alloc (.cells awC 55))) :
    wpList Tryz.prog ops Q ({ dst := d, op := .buildSlice 22 3 #[(0, x), (1, y), (2, z)], type := ty, pos := ps, after := af, guard := none } :: rest) a w := by
  obtain ⟨i0, hi, h0, h2, h3⟩ := info_of info46
  refine wpList_buildSlice rfl 22 55 3 #[(0, x), (1, y), (2, z)] rfl awC i0 _ Tryz.underlying22 hi h0 (by rw [h2]; decide) (by rw [h2]; decide) ?_ h
  rw [h2]
  simp only [List.map_toArray, List.map_cons, List.map_nil, hx, hy, hz]
  exact fillAw
end
theorem aw_recs (w : World) : RecsAt (w.alloc (.cells awC 55)) (some ⟨w.heap.size, 0, none⟩) [ax1, ax2, ax3] := by
  refine ⟨?_, fun x hx => aw_in _ x (by simpa using hx)⟩
  have h : Cells _ _ (rowsC rxC [ax1, ax2, ax3]) := Cells.new w awC 55
  refine .inr ⟨w.heap.size, 0, rfl, h.1, fun i hi => ?_⟩
  have q := (h.2 i hi).1
  rw [Nat.zero_add]
  exact q
theorem aw_run (xs : List RX) (pt E : Int) (F : FoundM) (a : Option Addr) (n c : Nat) (w : World) (h : RecsAt w a xs) (hn : n = xs.length) (hm : n ≤ 1000000) (hc : n ≤ c) (hnil : a = none → c = 0) (hE : runE (rsOf xs) pt = E) (hF : runF (rsOf xs) pt = F) :
    Calls Tryz.prog 7 #[.slice a n c, .int .i64 pt] w fun e w' => ∃ la nL lc da nD dc, e = .returned (.tuple #[.agg (fdA (.slice la nL lc) (.slice da nD dc) F), .int .i64 E]) ∧ nL = F.live.length ∧ nD = F.dirty.length ∧ FoundOut w w' (.slice la nL lc) (.slice da nD dc) F := by
  refine (run_any xs a n c pt w h hn hm hc hnil).mono ?_
  rintro e w' ⟨vL, vD, rfl, hFO⟩
  rw [hF] at hFO
  rw [hE, hF]
  obtain ⟨la, lc, hla, -⟩ := GRow.lies hFO.live
  obtain ⟨da, dc, hda, -⟩ := GRow.lies hFO.dirty
  subst hla hda
  exact ⟨la, _, lc, da, _, dc, rfl, rfl, rfl, hFO⟩
theorem FoundOut.lies {w w' : World} {la da : Option Addr} {nL lc nD dc : Nat} {F : FoundM} (h : FoundOut w w' (.slice la nL lc) (.slice da nD dc) F) : Lies w' la (rowsC lvC F.live) ∧ Lies w' da (dirtyCs F.dirty) := by
  obtain ⟨a1, c1, e1, l1, -⟩ := GRow.lies h.live
  obtain ⟨a2, c2, e2, l2, -⟩ := GRow.lies h.dirty
  cases e1
  cases e2
  exact ⟨l1, l2⟩
set_option maxHeartbeats 16000000 in
theorem awake_any (w : World) : Calls Tryz.prog 4 #[] w fun e w' => e = .returned (.bool true) ∧ Below w.heap.size w w' := by
  go_enter Tryz.func4, Tryz.ntmps4
  go_upto_region 2 with fail
  refine named (P := Code.wp _ _ _ _) ?_
  intro w1 hw1
  have B1 := hide (show Below w.heap.size w w1 by rw [hw1]; exact alloc_below _ _)
  obtain ⟨sb, hsb⟩ : ∃ b, b = w.heap.size := ⟨_, rfl⟩
  have S1 := hide (show Cells w1 sb [.int .i64 3, .int .i64 0] by rw [hw1, hsb]; exact Cells.new _ _ _)
  obtain ⟨s0, -⟩ := S1.out.get 0 _ rfl
  obtain ⟨s1, -⟩ := S1.out.get 1 _ rfl
  rw [← hsb]
  clear hw1 hsb
  go_upto_region 3 with (first | (refine wpList_b46 #[(0, (.const (.int .i64 1))), (1, (.const (.int .i64 1))), (2, (.const (.int .i64 1)))] (rxA ax1) ?hf ?_; case hf => kernel_rfl) | (refine wpList_b46 #[(0, (.const (.int .i64 2))), (1, (.const (.int .i64 2))), (5, .tmp 12), (7, .tmp 13)] (rxA ax2) ?hf ?_; case hf => kernel_rfl) | (refine wpList_b46 #[(0, (.const (.int .i64 3))), (1, (.const (.int .i64 3))), (2, (.const (.int .i64 1))), (3, (.const (.int .i64 1))), (5, .tmp 15), (7, .tmp 16), (6, (.const (.int .i64 3)))] (rxA ax3) ?hf ?_; case hf => kernel_rfl) | (refine wpList_b3 ?h1 ?h2 ?h3 ?_; case h1 => rfl; case h2 => rfl; case h3 => rfl))
  refine named (P := Code.wp _ _ _ _) ?_
  intro w2 hw2
  have R2 := hide (show RecsAt w2 (some ⟨w1.heap.size, 0, none⟩) [ax1, ax2, ax3] by rw [hw2]; exact aw_recs w1)
  have B2 := hide (show Below w.heap.size w w2 by rw [hw2]; exact B1.out.alloc B1.out.size _)
  obtain ⟨lb, hlb⟩ : ∃ b, b = w1.heap.size := ⟨_, rfl⟩
  rw [← hlb] at R2 ⊢
  clear hlb hw2 s0 s1 S1 B1
  have KA := hide (fun w' (h : RecsAt w' (some ⟨lb, 0, none⟩) [ax1, ax2, ax3]) => aw_run [ax1, ax2, ax3] 0 0 awF (some ⟨lb, 0, none⟩) 3 3 w' h rfl (by omega) (by omega) (by nofun) aw_1 aw_4)
  have KB := hide (fun w' (h : RecsAt w' (some ⟨lb, 0, none⟩) [ax1, ax2, ax3]) => aw_run [ax1, ax2, ax3] 3 4 zeroF (some ⟨lb, 0, none⟩) 3 3 w' h rfl (by omega) (by omega) (by nofun) aw_2 (runF_bad (by rw [aw_2]; decide)))
  have SL := hide (fun w' => slice_from17 (some ⟨lb, 0, none⟩) 3 3 1 w' (by omega) (by omega) (by nofun))
  have KC := hide (fun w' (h : RecsAt w' (some ⟨lb, 0, none⟩) [ax1, ax2, ax3]) => aw_run [ax2, ax3] 0 60 zeroF (if 3 = 1 then some ⟨lb, 0, none⟩ else (some (⟨lb, 0, none⟩ : Addr)).map (fun x => x.add (1 * 17))) (3 - 1) (3 - 1) w' (h.drop (cap := 3) (k := 1) (by simp)) rfl (by omega) (by omega) (by simp) aw_3 (runF_bad (by rw [aw_3]; decide)))
  obtain ⟨a', ha'⟩ : ∃ a', a' = (if 3 = 1 then some ⟨lb, 0, none⟩ else (some (⟨lb, 0, none⟩ : Addr)).map (fun x => x.add (1 * 17))) := ⟨_, rfl⟩
  rw [← ha'] at SL KC
  clear ha'
  simp only [show (3 : Nat) - 1 = 2 from rfl] at SL KC
  go_upto_region 4 with (go_at_call 7; refine (KA.out _ R2.out).mono ?_; rintro e w3 ⟨la, nL, lc, da, nD, dc, rfl, hnL, hnD, hFO⟩; have HL := hide hnL; have HD := hide hnD; clear hnL hnD)
  refine named (P := Code.wp _ _ _ _) ?_
  intro w4 hw4
  obtain ⟨fb, hfb⟩ : ∃ b, b = w3.heap.size := ⟨_, rfl⟩
  have b34 : Below w3.heap.size w3 w4 := by rw [hw4]; exact alloc_below _ _
  have F4 := hide (show Cells w4 fb [.slice la nL lc, .slice da nD dc, .int .i64 awF.fr, .int .i64 awF.next] by rw [hw4, hfb]; exact Cells.new _ _ _)
  have L4 := hide (show Lies w4 la (rowsC lvC awF.live) ∧ Lies w4 da (dirtyCs awF.dirty) from ⟨hFO.lies.1.below b34, hFO.lies.2.below b34⟩)
  have B4 := hide (B2.out.trans ((hFO.be.trans (b34.mono hFO.be.size)).mono B2.out.size))
  have R4 := hide (R2.out.below (hFO.be.trans (b34.mono hFO.be.size)))
  rw [← hfb]
  clear hw4 hfb b34 hFO KA R2 B2
  go_upto_region 5 with (go_at_call 7; refine (KB.out _ R4.out).mono ?_; rintro e w5 ⟨la5, nL5, lc5, da5, nD5, dc5, rfl, -, -, hFO⟩)
  refine named (P := Code.wp _ _ _ _) ?_
  intro w6 hw6
  have b46 : Below w4.heap.size w4 w6 := by rw [hw6]; exact hFO.be.alloc hFO.be.size _
  have F6 := hide (F4.out.below b46)
  have L6 := hide (show Lies w6 la (rowsC lvC awF.live) ∧ Lies w6 da (dirtyCs awF.dirty) from ⟨L4.out.1.below b46, L4.out.2.below b46⟩)
  have B6 := hide (B4.out.trans (b46.mono B4.out.size))
  have R6 := hide (R4.out.below b46)
  clear hw6 b46 hFO KB R4 B4 F4 L4
  have sl6 : (Instr.slice 22 (.slice (some ⟨lb, 0, none⟩) 3 3) (some (.int .i64 1)) none none).run Tryz.prog w6 = .ok (.slice a' 2 2) w6 := SL.out w6
  go_upto_region 6 with (go_at_call 7; refine (KC.out _ R6.out).mono ?_; rintro e w7 ⟨la7, nL7, lc7, da7, nD7, dc7, rfl, -, -, hFO⟩)
  refine named (P := Code.wp _ _ _ _) ?_
  intro w8 hw8
  have b68 : Below w6.heap.size w6 w8 := by rw [hw8]; exact hFO.be.alloc hFO.be.size _
  have F8 := hide (F6.out.below b68)
  have L8 := hide (show Lies w8 la (rowsC lvC awF.live) ∧ Lies w8 da (dirtyCs awF.dirty) from ⟨L6.out.1.below b68, L6.out.2.below b68⟩)
  have B8 := hide (B6.out.trans (b68.mono B6.out.size))
  clear hw8 b68 hFO KC R6 B6 F6 L6 sl6 SL
  go_upto_region 7 with fail
  refine named (P := Code.wp _ _ _ _) ?_
  intro w9 hw9
  obtain ⟨lv, hlv⟩ : ∃ b, b = w8.heap.size := ⟨_, rfl⟩
  obtain ⟨dv, hdv⟩ : ∃ b, b = w8.heap.size + 1 := ⟨_, rfl⟩
  obtain ⟨wb, hwb⟩ : ∃ b, b = w8.heap.size + 1 + 1 := ⟨_, rfl⟩
  have b89 : Below w8.heap.size w8 w9 := by rw [hw9]; exact bnext (bnext (alloc_below _ _) (alloc_below _ _) (Nat.le_refl _)) (alloc_below _ _) (Nat.le_refl _)
  have V9 := hide (show Lies w9 (some ⟨lv, 0, none⟩) (rowsC lvC awF.live) by
    have h := (Cells.new w8 #[.int .i64 1, .int .i64 3, .bool false, .bool false] 58)
    have q := (h.below (alloc_below _ (.cells #[.int .i64 0, .int .i64 2, .int .i64 3, .int .i64 2] 60))).below (alloc_below _ (.cells #[.slice (some ⟨w8.heap.size, 0, none⟩) 1 1, .slice (some ⟨w8.heap.size + 1, 0, none⟩) 2 2, .int .i64 2, .int .i64 2] 38))
    rw [hw9, hlv]
    refine .inr ⟨w8.heap.size, 0, rfl, q.1, fun i hi => ?_⟩
    have := (q.2 i hi).1
    rw [Nat.zero_add]
    exact this)
  have U9 := hide (show Lies w9 (some ⟨dv, 0, none⟩) (dirtyCs awF.dirty) by
    have h := (Cells.new (w8.alloc (.cells #[.int .i64 1, .int .i64 3, .bool false, .bool false] 58)) #[.int .i64 0, .int .i64 2, .int .i64 3, .int .i64 2] 60)
    have q := h.below (alloc_below _ (.cells #[.slice (some ⟨w8.heap.size, 0, none⟩) 1 1, .slice (some ⟨w8.heap.size + 1, 0, none⟩) 2 2, .int .i64 2, .int .i64 2] 38))
    rw [World.size_alloc] at q
    rw [hw9, hdv]
    refine .inr ⟨w8.heap.size + 1, 0, rfl, q.1, fun i hi => ?_⟩
    have := (q.2 i hi).1
    rw [Nat.zero_add]
    exact this)
  have W9 := hide (show Cells w9 wb [.slice (some ⟨lv, 0, none⟩) 1 1, .slice (some ⟨dv, 0, none⟩) 2 2, .int .i64 2, .int .i64 2] by
    have q := Cells.new ((w8.alloc (.cells #[.int .i64 1, .int .i64 3, .bool false, .bool false] 58)).alloc (.cells #[.int .i64 0, .int .i64 2, .int .i64 3, .int .i64 2] 60)) #[.slice (some ⟨w8.heap.size, 0, none⟩) 1 1, .slice (some ⟨w8.heap.size + 1, 0, none⟩) 2 2, .int .i64 2, .int .i64 2] 38
    rw [World.size_alloc, World.size_alloc] at q
    rw [hw9, hlv, hdv, hwb]
    exact q)
  have F9 := hide (F8.out.below b89)
  have L9 := hide (show Lies w9 la (rowsC lvC awF.live) ∧ Lies w9 da (dirtyCs awF.dirty) from ⟨L8.out.1.below b89, L8.out.2.below b89⟩)
  have B9 := hide (B8.out.trans (b89.mono B8.out.size))
  rw [← hwb, ← hdv, ← hlv]
  clear hw9 hlv hdv hwb b89 F8 L8 B8
  have e1 : nL = 1 := HL.out
  have e2 : nD = 2 := HD.out
  subst e1 e2
  have KS := hide (same_true awF la da (some ⟨lv, 0, none⟩) (some ⟨dv, 0, none⟩) 1 2 lc dc 1 2 w9 L9.out.1 V9.out L9.out.2 U9.out rfl rfl (by omega) (by omega))
  have KS := hide (show Calls Tryz.prog 10 #[.agg #[.slice la 1 lc, .slice da 2 dc, .int .i64 2, .int .i64 2], .agg #[.slice (some ⟨lv, 0, none⟩) 1 1, .slice (some ⟨dv, 0, none⟩) 2 2, .int .i64 2, .int .i64 2]] w9 fun e w' => e = .returned (.bool true) ∧ Below w9.heap.size w9 w' from KS.out)
  have F9 := hide (show Cells w9 fb [.slice la 1 lc, .slice da 2 dc, .int .i64 2, .int .i64 2] from F9.out)
  obtain ⟨f0, -⟩ := F9.out.get 0 _ rfl
  obtain ⟨f1, -⟩ := F9.out.get 1 _ rfl
  obtain ⟨f2, -⟩ := F9.out.get 2 _ rfl
  obtain ⟨f3, -⟩ := F9.out.get 3 _ rfl
  obtain ⟨g0, -⟩ := W9.out.get 0 _ rfl
  obtain ⟨g1, -⟩ := W9.out.get 1 _ rfl
  obtain ⟨g2, -⟩ := W9.out.get 2 _ rfl
  obtain ⟨g3, -⟩ := W9.out.get 3 _ rfl
  go_wp2_with (first | (go_at_call 9; refine (num_eq _ _).mono ?_; rintro e wz ⟨rfl, rfl⟩) | (go_at_call 10; refine KS.out.mono ?_; rintro e wx ⟨rfl, hbx⟩; have BX := hide (B9.out.trans (hbx.mono B9.out.size)); clear hbx f0 f1 f2 f3 g0 g1 g2 g3))
  go_ret
  exact ⟨rfl, BX.out⟩
end Go.Proofs.YtblngphjoafidaaGreat
