import Derived.Test.YtllpfojkbeloeaaDoorWrites
namespace Go.Proofs.YtllpfojkbeloeaaDoor
open Go.RowKit Go.QK

set_option maxHeartbeats 1000000 in
set_option maxRecDepth 100000 in
theorem writes_4 (wh : Bool) (n : Nat) (i at_ size : Int) (ab : Option Addr) (lb cb : Nat) (ap : Option Addr) (lp cp : Nat) (w : World) (B t m : Nat) (h : Tbl w B t m) (hm : m ≤ 1000) :
    Calls Tryd.prog 36 #[.pointer (some ⟨t, 0, none⟩), .agg (opC 4 wh n i at_ size ab lb cb ap lp cp)] w fun e w' => e = .returned (.bool true) ∧ Tbl w' B t (m + 1) ∧ Below B w w' := by
  obtain ⟨lab, sd, vL, vM, Ls, Ms, tb, hls, hsd⟩ := h
  have R0 := hide (Row8.new w (.int .i64 4) (.bool wh) (.int .u64 (n : Int)) (.int .i64 i) (.int .i64 at_) (.int .i64 size) (.slice ab lb cb) (.slice ap lp cp) 69)
  have B0 : Below w.heap.size w (w.alloc (.cells #[.int .i64 4, .bool wh, .int .u64 (n : Int), .int .i64 i, .int .i64 at_, .int .i64 size, .slice ab lb cb, .slice ap lp cp] 69)) := (Below.refl _ _).alloc (Nat.le_refl _) _
  have T0 := hide (tb.below B0 (relab_old w lab 8))
  have hB := tb.base
  have HSD := hide hsd
  clear hsd tb
  go_enter Tryd.func36, Tryd.ntmps36
  go_wp2_with fail
  refine (which_any _ _ _ _ _ _ _ _ _ _ _ _ _).mono ?_
  rintro e w1 ⟨rfl, b1⟩
  have R1 := hide (Row8.below R0.out b1)
  have T1 := hide (T0.out.below b1 (fun _ _ => rfl))
  have B1 : Below B w w1 := (B0.mono hB).trans (b1.mono (by simp; omega))
  have hb0 : relab w lab 8 w.heap.size = 8 := relab_new _ _ _ _ (Nat.le_refl _)
  obtain ⟨j, hj⟩ : ∃ j : Nat, j = (if wh then 1 else 0) := ⟨_, rfl⟩
  have hj2 : j < 2 := by rw [hj]; split <;> omega
  rw [← hj]
  clear hj R0 T0 B0 b1
  generalize relab w lab 8 = lab1 at *
  generalize w.heap.size = s0 at *
  obtain ⟨z, q0, q1, q2, q3, q4, q5, q6, q7⟩ := R1.out
  obtain ⟨c1, c2, c3, c4⟩ := tcs_at sd vL vM j hj2
  have tw1 := T1.out.tl
  have k3 := ((T1.out.tb id).get _ _ c3).1
  have k4 := ((T1.out.tb id).get _ _ c4).1
  unfold ptrAt at k3 k4
  have hj3 : (j : Int) < 2 := by omega
  have lr := (T1.out.rd j hj2 id).2.1
  have ld := (T1.out.rr j hj2 id).2.1
  have lt := T1.out.lt
  have nrt : ¬ t = (sd j).r := fun e => by rw [← e, lt] at lr; omega
  have ndt : ¬ t = (sd j).d := fun e => by rw [← e, lt] at ld; omega
  have nrs : ¬ s0 = (sd j).r := fun e => by rw [← e, hb0] at lr; omega
  have nds : ¬ s0 = (sd j).d := fun e => by rw [← e, hb0] at ld; omega
  have k1 := ((T1.out.tb id).get _ _ c1).1
  have k2 := ((T1.out.tb id).get _ _ c2).1
  rw [Nat.zero_add] at k1
  unfold ptrAt at k1
  obtain ⟨e1, e2, -, -, -, e6⟩ := HSD.out j hj2
  have so := (T1.out.sa j hj2 id).1
  rw [e1] at so
  obtain ⟨as_, cs_, es, ss, -, -, -⟩ := Owns.seen so
  rw [ints_length] at es
  rw [es] at k2
  have HSS := hide ss
  have HWR := hide (T1.out.wr j hj2 id).1
  have hl : (sd j).l.length ≤ 1000000 := by omega
  have tl1 := T1.out.tl
  clear so ss es e1 c1 c2 c3 c4 nrt ndt nrs nds k3 k4 q1 q2 q3 q4 q5 q6 q7
  go_wp2_with fail
  refine (out_any B _ _ _ _ HWR.out hl).mono ?_
  rintro e w2 ⟨a2, rfl, o2, b2⟩
  obtain ⟨a2, c2, ev2, sv2, -, -, -⟩ := Owns.seen o2
  rw [ints_length] at ev2
  subst ev2
  have T2 := hide (T1.out.below b2 (relab_old w1 lab1 (100 + Ls.length)))
  have L2 : ∀ b, (Value.slice a2 (sd j).l.length c2).ownBlock = some b → b < w2.heap.size ∧ relab w1 lab1 (100 + Ls.length) b = 100 + Ls.length := fun b hb => ⟨(World.ownsRow.lt o2 b hb).2, relab_new _ _ _ _ (World.ownsRow.lt o2 b hb).1⟩
  have hBw1 := T1.out.base
  have HO2 := hide (own_mono o2 hBw1)
  have HWR2 := hide (HWR.out.below b2)
  have HSS2 := hide (Seen.below HSS.out b2)
  have k1' := (b2.cell (p := ⟨t, j, none⟩) tl1).trans k1
  have k2' := (b2.cell (p := ⟨t, 2 + j, none⟩) tl1).trans k2
  have tl2 := T2.out.tl
  have BL2 := B1.trans (b2.mono hBw1)
  generalize relab w1 lab1 (100 + Ls.length) = lab2 at *
  clear o2 sv2 b2 HWR HSS k1 k2 T1 q0 R1 lr ld lt hb0 z
  go_wp2_with fail
  refine (out_any B _ _ _ _ HWR2.out hl).mono ?_
  rintro e w3 ⟨a3, rfl, o3, b3⟩
  obtain ⟨a3, c3, ev3, sv3, -, -, -⟩ := Owns.seen o3
  rw [ints_length] at ev3
  subst ev3
  have T3 := hide (T2.out.below b3 (relab_old w2 lab2 (100 + (Ls.length + 1))))
  have L2' : ∀ b, (Value.slice a2 (sd j).l.length c2).ownBlock = some b → b < w3.heap.size ∧ relab w2 lab2 (100 + (Ls.length + 1)) b = 100 + Ls.length := fun b hb => ⟨Nat.lt_of_lt_of_le (L2 b hb).1 b3.size, (relab_old _ _ _ b (L2 b hb).1).trans (L2 b hb).2⟩
  have L3 : ∀ b, (Value.slice a3 (sd j).l.length c3).ownBlock = some b → b < w3.heap.size ∧ relab w2 lab2 (100 + (Ls.length + 1)) b = 100 + (Ls.length + 1) := fun b hb => ⟨(World.ownsRow.lt o3 b hb).2, relab_new _ _ _ _ (World.ownsRow.lt o3 b hb).1⟩
  have hBw2 := T2.out.base
  have HO3 := hide (own_mono o3 hBw2)
  have HO2' := hide (Owns.below HO2.out b3)
  have HSS3 := hide (Seen.below HSS2.out b3)
  have k2 := (b3.cell (p := ⟨t, 2 + j, none⟩) tl2).trans k2'
  have BL3 := BL2.trans (b3.mono hBw2)
  generalize relab w2 lab2 (100 + (Ls.length + 1)) = lab3 at *
  clear o3 sv3 b3 HWR2 HSS2 k1' k2' T2 HO2 L2 BL2
  obtain ⟨a2', c2', e2', s2', -⟩ := Owns.seen HO2'.out
  simp only [Value.slice.injEq] at e2'
  obtain ⟨rfl, -, rfl⟩ := e2'
  obtain ⟨a3', c3', e3', s3', -⟩ := Owns.seen HO3.out
  simp only [Value.slice.injEq] at e3'
  obtain ⟨rfl, -, rfl⟩ := e3'
  have KA := same_any a2 as_ (sd j).l (sd j).l c2 cs_ w3 s2' HSS3.out e6 e6
  have KB := same_any a3 as_ (sd j).l (sd j).l c3 cs_ w3 s3' HSS3.out e6 e6
  rw [decide_eq_true rfl] at KA KB
  have HKA := hide KA
  have HKB := hide KB
  -- the book's rows
  obtain ⟨rL, lL⟩ := T3.out.rL id
  obtain ⟨rM, lM⟩ := T3.out.rM id
  obtain ⟨aL, cL, eL, -⟩ := rL.form
  obtain ⟨aM, cM, eM, -⟩ := rM.form
  subst eL
  subst eM
  have KC := keeps_any t 8 B (tcs sd (.slice aL Ls.length cL) (.slice aM Ms.length cM)) aL cL aM cM Ls Ms a2 c2 (sd j).l w3 lab3 T3.out.base (T3.out.tb id) rfl rfl rL rM T3.out.len (by omega) HO2'.out hl T3.out.lt lL lM (fun b hb => (L2' b hb).2)
  have HKC := hide KC
  clear KA KB KC s2' s3' rL rM lL lM
  go_wp2_with (first | (go_at_call_of 25 a2; refine (Hid.out HKA).mono ?_; rintro e w' ⟨rfl, rfl⟩) | (go_at_call_of 25 a3; refine (Hid.out HKB).mono ?_; rintro e w' ⟨rfl, rfl⟩))
  refine (Hid.out HKC).mono ?_
  rintro e w4 ⟨rfl, lab4, vL4, vM4, u4, p1, p2, p3, p4, p5, p6, p7, p8, p9⟩
  obtain ⟨T4, B4⟩ := T3.out.kept L2' p1 p2 p3 p4 p5 p6 p7 p8 p9
  have HO4 := hide (Owns.keep HO3.out p9 (fun b hb q => by have := (L3 b hb).2; omega))
  have L4 : ∀ b, (Value.slice a3 (sd j).l.length c3).ownBlock = some b → b < w4.heap.size ∧ lab4 b = 100 + (Ls.length + 1) := fun b hb => ⟨Nat.lt_of_lt_of_le (L3 b hb).1 p9.size, (p1 b (L3 b hb).1).trans (L3 b hb).2⟩
  have BL4 := BL3.trans B4
  have HT4 := hide T4
  clear p1 p2 p3 p4 p5 p6 p7 p8 p9 T4 B4 HKC HKA HKB T3 HO3 HO2' HSS3 k2 L2' L3 BL3
  obtain ⟨Ls4, hLs4⟩ : ∃ Ls4, Ls4 = Ls ++ [.slice a2 (sd j).l.length c2] := ⟨_, rfl⟩
  obtain ⟨Ms4, hMs4⟩ : ∃ Ms4, Ms4 = Ms ++ [u4] := ⟨_, rfl⟩
  have hLn : Ls4.length = Ls.length + 1 := by rw [hLs4]; simp
  rw [← hLs4, ← hMs4] at HT4
  rw [← hLn] at L4
  clear hLs4 hMs4
  obtain ⟨rL, lL⟩ := HT4.out.rL id
  obtain ⟨rM, lM⟩ := HT4.out.rM id
  obtain ⟨aL4, cL4, eL, -⟩ := rL.form
  obtain ⟨aM4, cM4, eM, -⟩ := rM.form
  subst eL
  subst eM
  have KD := keeps_any t 8 B (tcs sd (.slice aL4 Ls4.length cL4) (.slice aM4 Ms4.length cM4)) aL4 cL4 aM4 cM4 Ls4 Ms4 a3 c3 (sd j).l w4 lab4 HT4.out.base (HT4.out.tb id) rfl rfl rL rM HT4.out.len (by omega) HO4.out hl HT4.out.lt lL lM (fun b hb => (L4 b hb).2)
  have HKD := hide KD
  have HLn := hide hLn
  clear KD rL rM lL lM hLn
  go_wp2_with fail
  refine (Hid.out HKD).mono ?_
  rintro e w5 ⟨rfl, lab5, vL5, vM5, u5, p1, p2, p3, p4, p5, p6, p7, p8, p9⟩
  obtain ⟨T5, B5⟩ := HT4.out.kept L4 p1 p2 p3 p4 p5 p6 p7 p8 p9
  have HT5 := hide T5
  have BL5 := BL4.trans B5
  clear p1 p2 p3 p4 p5 p6 p7 p8 p9 T5 B5 HKD HT4 L4
  go_wp2_with fail
  go_ret
  refine ⟨rfl, ⟨lab5, sd, vL5, vM5, _, _, HT5.out, by have := HLn.out; simp; omega, fun i hi => ?_⟩, BL5⟩
  obtain ⟨e1, e2, e3, e4, e5, e6⟩ := HSD.out i hi
  exact ⟨e1, by omega, e3, e4, e5, e6⟩
end Go.Proofs.YtllpfojkbeloeaaDoor
