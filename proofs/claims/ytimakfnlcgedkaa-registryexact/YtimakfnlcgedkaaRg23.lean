import Derived.Test.YtimakfnlcgedkaaRg22
namespace Go.Proofs.Ytimakfnlcgedkaa
open Go.RowKit Go.QK Go.Maps Go.QM Go.QR
set_option maxRecDepth 100000
theorem Tb.cP {lab : Nat → Nat} {w : World} {B : Nat} {T : Tab} (h : Tb lab w B T) {i : Nat} (hi : i < 2) : w.cell? ⟨T.t, i, none⟩ = some (ptr (T.b i)) ∧ w.frozen? ⟨T.t, i, none⟩ = false := by
  rcases (show i = 0 ∨ i = 1 by omega) with rfl | rfl
  · exact h.box.get 0 _ rfl
  · exact h.box.get 1 _ rfl
theorem Tb.cR {lab : Nat → Nat} {w : World} {B : Nat} {T : Tab} (h : Tb lab w B T) {i : Nat} (hi : i < 2) : w.cell? ⟨T.t, 2 + i, none⟩ = some (ptr (T.c i)) ∧ w.frozen? ⟨T.t, 2 + i, none⟩ = false := by
  rcases (show i = 0 ∨ i = 1 by omega) with rfl | rfl
  · exact h.box.get 2 _ rfl
  · exact h.box.get 3 _ rfl
set_option maxHeartbeats 4000000 in
theorem plans_any (lab : Nat → Nat) (B : Nat) (T : Tab) (i : Nat) (c d : Int) (w : World) (h : Tb lab w B T) (hi : i < 2) (he : T.rp i = T.rq i) : Calls Try.prog 28 #[ptr T.t, .int .i64 (i : Int), .int .i64 c, .int .i64 d] w fun e w' => e = .returned (.bool true) ∧ Below w.heap.size w w' := by
  have ok := (h.pr i hi).ok
  have KP := fun w' (h : Tb lab w' B T) => plan_any (T.b i) (T.m i) (T.g i) (T.rp i) c d w' (h.pr i hi)
  have KR := fun w' (h : Tb lab w' B T) => rplan_any B (T.c i) (T.vC i) (T.vG i) (T.rq i) c d w' (h.rr i hi) (by rw [← he]; exact ok)
  unfold PlanPost at KP KR
  rw [← he] at KR
  generalize (T.rp i).planW c d = PW at *
  generalize (T.rp i).planS c d = PS at *
  generalize (T.rp i).planE c d = PE at *
  obtain ⟨kp, -⟩ := h.cP hi
  obtain ⟨kr, -⟩ := h.cR hi
  have HT := hide h
  have HB := hide (Below.refl w.heap.size w)
  clear h ok he
  go_enter Try.func28, Try.ntmps28
  go_upto_region 2 with (go_at_call 11; refine (KP _ (HT.out)).mono ?_; rintro e v1 ⟨rfl, hh⟩; have HTx := hide (HT.out.below hh); have HBx := hide (HB.out.trans (hh.mono HB.out.size)); clear hh HT HB  KP kp kr)
  refine named (P := Code.wp _ _ _ _) ?_
  intro w1 hwn
  obtain ⟨N1, N2, bb, -⟩ := two_cells hwn
  have HT := hide (HTx.out.below bb)
  have HB := hide (HBx.out.trans (bb.mono HBx.out.size))
  have A1 := hide N1
  have A2 := hide N2
  clear hwn bb N1 N2 HTx HBx 
  obtain ⟨t1, ht⟩ : ∃ t, t = v1.heap.size := ⟨_, rfl⟩
  rw [← ht] at A1 A2 ⊢
  clear ht
  obtain ⟨kp, -⟩ := HT.out.cP hi
  obtain ⟨kr, -⟩ := HT.out.cR hi
  go_upto_region 3 with (go_at_call 36; refine (KR _ (HT.out)).mono ?_; rintro e v2 ⟨rfl, hh⟩; have HTx := hide (HT.out.below hh); have HBx := hide (HB.out.trans (hh.mono HB.out.size)); have A1x := hide (A1.out.below hh); have A2x := hide (A2.out.below hh); clear hh HT HB A1 A2 KR kp kr)
  refine named (P := Code.wp _ _ _ _) ?_
  intro w2 hwn
  obtain ⟨N1, N2, bb, -⟩ := two_cells hwn
  have HT := hide (HTx.out.below bb)
  have HB := hide (HBx.out.trans (bb.mono HBx.out.size))
  have A1 := hide (A1x.out.below bb)
  have A2 := hide (A2x.out.below bb)
  have A3 := hide N1
  have A4 := hide N2
  clear hwn bb N1 N2 HTx HBx A1x A2x
  obtain ⟨t2, ht⟩ : ∃ t, t = v2.heap.size := ⟨_, rfl⟩
  rw [← ht] at A3 A4 ⊢
  clear ht
  obtain ⟨kp, -⟩ := HT.out.cP hi
  obtain ⟨kr, -⟩ := HT.out.cR hi
  obtain ⟨A1p, -⟩ := A1.out.get 0 _ rfl
  obtain ⟨A1q, -⟩ := A1.out.get 1 _ rfl
  obtain ⟨A2p, -⟩ := A2.out.get 0 _ rfl
  obtain ⟨A2q, -⟩ := A2.out.get 1 _ rfl
  obtain ⟨A3p, -⟩ := A3.out.get 0 _ rfl
  obtain ⟨A3q, -⟩ := A3.out.get 1 _ rfl
  obtain ⟨A4p, -⟩ := A4.out.get 0 _ rfl
  obtain ⟨A4q, -⟩ := A4.out.get 1 _ rfl
  clear A1 A2 A3 A4
  go_wp2_with (go_at_call 10; refine (num_eq _ _).mono ?_; rintro e wz ⟨rfl, rfl⟩)
  go_ret
  exact ⟨rfl, HB.out⟩
set_option maxHeartbeats 4000000 in
theorem finds_any (lab : Nat → Nat) (B : Nat) (T : Tab) (i : Nat) (c d : Int) (w : World) (h : Tb lab w B T) (hi : i < 2) (he : T.rp i = T.rq i) (hc : I64 c) (hd : I64 d) : Calls Try.prog 31 #[ptr T.t, .int .i64 (i : Int), .int .i64 c, .int .i64 d] w fun e w' => e = .returned (.bool true) ∧ Below w.heap.size w w' := by
  have ok := (h.pr i hi).ok
  have K1 := fun w' (h : Tb lab w' B T) => find_any (T.b i) (T.m i) (T.g i) (T.rp i) c w' (h.pr i hi) hc
  have K2 := fun w' (h : Tb lab w' B T) => rfind_any B (T.c i) (T.vC i) (T.vG i) (T.rq i) c w' (h.rr i hi) (by rw [← he]; exact ok)
  have K3 := fun w' (h : Tb lab w' B T) => group_any (T.b i) (T.m i) (T.g i) (T.rp i) d w' (h.pr i hi) hd
  have K4 := fun w' (h : Tb lab w' B T) => rgroupF_any B (T.c i) (T.vC i) (T.vG i) (T.rq i) d w' (h.rr i hi) (by rw [← he]; exact ok)
  rw [← he] at K2 K4
  generalize (T.rp i).findW c = FW at *
  generalize (T.rp i).findG c = FG at *
  generalize (T.rp i).findS c = FSm at *
  generalize (T.rp i).findE c = FE at *
  generalize (T.rp i).groupS d = GS at *
  generalize (T.rp i).groupE d = GE at *
  obtain ⟨kp, -⟩ := h.cP hi
  obtain ⟨kr, -⟩ := h.cR hi
  have HT := hide h
  have HB := hide (Below.refl w.heap.size w)
  clear h ok he
  go_enter Try.func31, Try.ntmps31
  go_upto_region 2 with (go_at_call 15; refine (K1 _ (HT.out)).mono ?_; rintro e v1 ⟨rfl, hh⟩; have HTx := hide (HT.out.below hh); have HBx := hide (HB.out.trans (hh.mono HB.out.size)); clear hh HT HB  K1 kp kr)
  refine named (P := Code.wp _ _ _ _) ?_
  intro w1 hwn
  obtain ⟨N1, N2, bb, -⟩ := two_cells hwn
  have HT := hide (HTx.out.below bb)
  have HB := hide (HBx.out.trans (bb.mono HBx.out.size))
  have A1 := hide N1
  have A2 := hide N2
  clear hwn bb N1 N2 HTx HBx 
  obtain ⟨t1, ht⟩ : ∃ t, t = v1.heap.size := ⟨_, rfl⟩
  rw [← ht] at A1 A2 ⊢
  clear ht
  obtain ⟨kp, -⟩ := HT.out.cP hi
  obtain ⟨kr, -⟩ := HT.out.cR hi
  go_upto_region 3 with (go_at_call 38; refine (K2 _ (HT.out)).mono ?_; rintro e v2 ⟨rfl, hh⟩; have HTx := hide (HT.out.below hh); have HBx := hide (HB.out.trans (hh.mono HB.out.size)); have A1x := hide (A1.out.below hh); have A2x := hide (A2.out.below hh); clear hh HT HB A1 A2 K2 kp kr)
  refine named (P := Code.wp _ _ _ _) ?_
  intro w2 hwn
  obtain ⟨N1, N2, bb, -⟩ := two_cells hwn
  have HT := hide (HTx.out.below bb)
  have HB := hide (HBx.out.trans (bb.mono HBx.out.size))
  have A1 := hide (A1x.out.below bb)
  have A2 := hide (A2x.out.below bb)
  have A3 := hide N1
  have A4 := hide N2
  clear hwn bb N1 N2 HTx HBx A1x A2x
  obtain ⟨t2, ht⟩ : ∃ t, t = v2.heap.size := ⟨_, rfl⟩
  rw [← ht] at A3 A4 ⊢
  clear ht
  obtain ⟨kp, -⟩ := HT.out.cP hi
  obtain ⟨kr, -⟩ := HT.out.cR hi
  go_upto_region 4 with (go_at_call 16; refine (K3 _ (HT.out)).mono ?_; rintro e v3 ⟨rfl, hh⟩; have HTx := hide (HT.out.below hh); have HBx := hide (HB.out.trans (hh.mono HB.out.size)); have A1x := hide (A1.out.below hh); have A2x := hide (A2.out.below hh); have A3x := hide (A3.out.below hh); have A4x := hide (A4.out.below hh); clear hh HT HB A1 A2 A3 A4 K3 kp kr)
  refine named (P := Code.wp _ _ _ _) ?_
  intro w3 hwn
  obtain ⟨N1, bb, -⟩ := one_cell hwn
  have HT := hide (HTx.out.below bb)
  have HB := hide (HBx.out.trans (bb.mono HBx.out.size))
  have A1 := hide (A1x.out.below bb)
  have A2 := hide (A2x.out.below bb)
  have A3 := hide (A3x.out.below bb)
  have A4 := hide (A4x.out.below bb)
  have A5 := hide N1
  clear hwn bb N1 HTx HBx A1x A2x A3x A4x
  obtain ⟨t3, ht⟩ : ∃ t, t = v3.heap.size := ⟨_, rfl⟩
  rw [← ht] at A5 ⊢
  clear ht
  obtain ⟨kp, -⟩ := HT.out.cP hi
  obtain ⟨kr, -⟩ := HT.out.cR hi
  go_upto_region 5 with (go_at_call 39; refine (K4 _ (HT.out)).mono ?_; rintro e v4 ⟨rfl, hh⟩; have HTx := hide (HT.out.below hh); have HBx := hide (HB.out.trans (hh.mono HB.out.size)); have A1x := hide (A1.out.below hh); have A2x := hide (A2.out.below hh); have A3x := hide (A3.out.below hh); have A4x := hide (A4.out.below hh); have A5x := hide (A5.out.below hh); clear hh HT HB A1 A2 A3 A4 A5 K4 kp kr)
  refine named (P := Code.wp _ _ _ _) ?_
  intro w4 hwn
  obtain ⟨N1, bb, -⟩ := one_cell hwn
  have HT := hide (HTx.out.below bb)
  have HB := hide (HBx.out.trans (bb.mono HBx.out.size))
  have A1 := hide (A1x.out.below bb)
  have A2 := hide (A2x.out.below bb)
  have A3 := hide (A3x.out.below bb)
  have A4 := hide (A4x.out.below bb)
  have A5 := hide (A5x.out.below bb)
  have A6 := hide N1
  clear hwn bb N1 HTx HBx A1x A2x A3x A4x A5x
  obtain ⟨t4, ht⟩ : ∃ t, t = v4.heap.size := ⟨_, rfl⟩
  rw [← ht] at A6 ⊢
  clear ht
  obtain ⟨kp, -⟩ := HT.out.cP hi
  obtain ⟨kr, -⟩ := HT.out.cR hi
  obtain ⟨A1p, -⟩ := A1.out.get 0 _ rfl
  obtain ⟨A1q, -⟩ := A1.out.get 1 _ rfl
  obtain ⟨A2p, -⟩ := A2.out.get 0 _ rfl
  obtain ⟨A2q, -⟩ := A2.out.get 1 _ rfl
  obtain ⟨A3p, -⟩ := A3.out.get 0 _ rfl
  obtain ⟨A3q, -⟩ := A3.out.get 1 _ rfl
  obtain ⟨A4p, -⟩ := A4.out.get 0 _ rfl
  obtain ⟨A4q, -⟩ := A4.out.get 1 _ rfl
  obtain ⟨A5p, -⟩ := A5.out.get 0 _ rfl
  obtain ⟨A5q, -⟩ := A5.out.get 1 _ rfl
  obtain ⟨A6p, -⟩ := A6.out.get 0 _ rfl
  obtain ⟨A6q, -⟩ := A6.out.get 1 _ rfl
  clear A1 A2 A3 A4 A5 A6
  go_wp2_with (go_at_call 10; refine (num_eq _ _).mono ?_; rintro e wz ⟨rfl, rfl⟩)
  go_ret
  exact ⟨rfl, HB.out⟩
end Go.Proofs.Ytimakfnlcgedkaa
