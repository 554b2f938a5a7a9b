import Derived.Test.YtllpfojkbeloeaaDoorReads
namespace Go.Proofs.YtllpfojkbeloeaaDoor
open Go.RowKit Go.QK
/-- A new writer, and nothing said. -/
theorem Tbl.fresh {w3 : World} {lab : Nat → Nat} {B t m : Nat} {sd : Nat → Side} {vL vM : Value} {Ls Ms : List Value} {j p : Nat} {v s : Value} (T : Tb w3 lab B t (upd (upd sd j (fun s => { s with p := p, v := v, l := [] })) j (fun q => { q with s := s, sl := [] })) vL vM Ls Ms) (hls : Ls.length ≤ 2 * m)
    (hsd : ∀ i, i < 2 → (sd i).sl = (sd i).l ∧ (sd i).l.length ≤ 10 * m ∧ (sd i).y = (sd i).x ∧ (sd i).qos = (sd i).pos ∧ (sd i).f = (sd i).e ∧ AllB (sd i).l) : Tbl w3 B t (m + 1) := by
  refine ⟨lab, _, vL, vM, Ls, Ms, T, by omega, fun i hi => ?_⟩
  obtain ⟨e1, e2, e3, e4, e5, e6⟩ := hsd i hi
  by_cases hij : i = j
  · subst hij
    rw [upd_same, upd_same]
    exact ⟨rfl, by dsimp only; simp, e3, e4, e5, AllB.nil⟩
  · rw [upd_other _ _ _ _ hij, upd_other _ _ _ _ hij]
    exact ⟨e1, by omega, e3, e4, e5, e6⟩

set_option maxHeartbeats 1000000 in
set_option maxRecDepth 100000 in
theorem writes_5 (wh : Bool) (n : Nat) (i at_ size : Int) (ab : Option Addr) (lb cb : Nat) (ap : Option Addr) (lp cp : Nat) (w : World) (B t m : Nat) (h : Tbl w B t m) :
    Calls Tryd.prog 36 #[.pointer (some ⟨t, 0, none⟩), .agg (opC 5 wh n i at_ size ab lb cb ap lp cp)] w fun e w' => e = .returned (.bool true) ∧ Tbl w' B t (m + 1) ∧ Below B w w' := by
  obtain ⟨lab, sd, vL, vM, Ls, Ms, tb, hls, hsd⟩ := h
  have R0 := hide (Row8.new w (.int .i64 5) (.bool wh) (.int .u64 (n : Int)) (.int .i64 i) (.int .i64 at_) (.int .i64 size) (.slice ab lb cb) (.slice ap lp cp) 69)
  have B0 : Below w.heap.size w (w.alloc (.cells #[.int .i64 5, .bool wh, .int .u64 (n : Int), .int .i64 i, .int .i64 at_, .int .i64 size, .slice ab lb cb, .slice ap lp cp] 69)) := (Below.refl _ _).alloc (Nat.le_refl _) _
  have T0 := hide (tb.below B0 (relab_old w lab 8))
  have hB := tb.base
  have HSD := hide hsd
  clear hsd tb
  go_enter Tryd.func36, Tryd.ntmps36
  go_wp2_with fail
  refine (which_any _ _ _ _ _ _ _ _ _ _ _ _ _).mono ?_
  rintro e w1 ⟨rfl, b1⟩
  have R1 := hide (Row8.below R0.out b1)
  have T1 := hide (T0.out.below b1 (fun _ _ => rfl))
  have B1 : Below B w w1 := (B0.mono hB).trans (b1.mono (by simp; omega))
  have hb0 : relab w lab 8 w.heap.size = 8 := relab_new _ _ _ _ (Nat.le_refl _)
  obtain ⟨j, hj⟩ : ∃ j : Nat, j = (if wh then 1 else 0) := ⟨_, rfl⟩
  have hj2 : j < 2 := by rw [hj]; split <;> omega
  rw [← hj]
  clear hj R0 T0 B0 b1
  generalize relab w lab 8 = lab1 at *
  generalize w.heap.size = s0 at *
  obtain ⟨z, q0, q1, q2, q3, q4, q5, q6, q7⟩ := R1.out
  obtain ⟨c1, c2, c3, c4⟩ := tcs_at sd vL vM j hj2
  have tw1 := T1.out.tl
  have k3 := ((T1.out.tb id).get _ _ c3).1
  have k4 := ((T1.out.tb id).get _ _ c4).1
  unfold ptrAt at k3 k4
  have hj3 : (j : Int) < 2 := by omega
  have lr := (T1.out.rd j hj2 id).2.1
  have ld := (T1.out.rr j hj2 id).2.1
  have lt := T1.out.lt
  have nrt : ¬ t = (sd j).r := fun e => by rw [← e, lt] at lr; omega
  have ndt : ¬ t = (sd j).d := fun e => by rw [← e, lt] at ld; omega
  have nrs : ¬ s0 = (sd j).r := fun e => by rw [← e, hb0] at lr; omega
  have nds : ¬ s0 = (sd j).d := fun e => by rw [← e, hb0] at ld; omega
  have T1d := hide (T1.out.below (Below.refl _ _).drew (fun _ _ => rfl))
  have B1d : Below B w w1.drew := B1.drew
  go_upto_region 10 with fail
  refine wp_region_held_drew (S := fun _ => True) (by kernel_rfl) trivial (fun hS => ?_)
  clear nrt ndt nrs nds k3 k4 q0 q1 q2 q3 q4 q5 q6 q7 R1
  refine take_at 0 (some 68) (v := ?_) rfl rfl (by kernel_rfl) (by kernel_rfl) (by kernel_rfl) (fun _ _ _ h => h) ⟨by rfl, ?_⟩ hS ?_
  rotate_left
  · intro wq hSw; (try dsimp only at hSw); go_simp; try rfl
  simp only [Act.put, List.setIfInBounds_toArray, List.set_cons_zero, List.set_cons_succ]
  refine take_at 1 (some 69) (v := ?_) rfl rfl (by kernel_rfl) (by kernel_rfl) (by kernel_rfl) (fun _ _ _ h => h) ⟨by rfl, ?_⟩ hS ?_
  rotate_left
  · intro wq hSw; (try dsimp only at hSw); go_simp; try rfl
  simp only [Act.put, List.setIfInBounds_toArray, List.set_cons_zero, List.set_cons_succ]
  refine take_at 3 (some 71) (v := ?_) rfl rfl (by kernel_rfl) (by kernel_rfl) (by kernel_rfl) (fun _ _ _ h => h) ⟨by rfl, ?_⟩ hS ?_
  rotate_left
  · intro wq hSw; (try dsimp only at hSw); go_simp; try rfl
  simp only [Act.put, List.setIfInBounds_toArray, List.set_cons_zero, List.set_cons_succ]
  refine take_at 4 (some 72) (v := ?_) rfl rfl (by kernel_rfl) (by kernel_rfl) (by kernel_rfl) (fun _ _ _ h => h) ⟨by rfl, ?_⟩ hS ?_
  rotate_left
  · intro wq hSw; (try dsimp only at hSw); go_simp; try rfl
  simp only [Act.put, List.setIfInBounds_toArray, List.set_cons_zero, List.set_cons_succ]
  refine wpAnyH_ready (rs := [2]) (by kernel_rfl) (by simp) ?_
  refine AllReadyH.cons rfl (fun K hK => ?_) AllReadyH.nil
  go_simp
  go_wp2_with fail
  refine (newWriter_any _).mono ?_
  rintro e w2 ⟨rfl, hw2⟩
  have HW2 := hide hw2
  clear hw2
  go_wp2_with fail
  have hw2 := HW2.out
  clear HW2
  have b2 : Below w1.drew.heap.size w1.drew w2 := by rw [hw2]; exact alloc_below _ _
  have W2 : Wr w2 B w1.drew.heap.size (.slice none 0 0) [] := by
    rw [hw2]
    exact ⟨Cells.new _ _ _, Owns.nil _ _ _ _, nofun, T1d.out.base⟩
  obtain ⟨⟨lab3, T3⟩, B3⟩ := T1d.out.putWriter j hj2 b2 W2 (fun b hb => by rcases hb with e | e; omega; cases e)
  obtain ⟨u2, f2⟩ := ((T1d.out.tb id).below b2).get _ _ c1
  rw [Nat.zero_add] at u2 f2 T3 B3
  unfold ptrAt at u2 T3 B3
  have hdr : w1.drew.heap.size = w1.heap.size := rfl
  rw [hdr] at T3 B3
  clear hdr
  have HT3 := hide T3
  have BL3 := B1d.trans B3
  refine hK.out _ _ trivial (fun _ => ?_)
  clear hK K T3 W2 hw2 T1 b2 B3 B1d c1 c2 c3 c4
  refine take_at 5 (some 73) (v := ?_) rfl rfl (by kernel_rfl) (by kernel_rfl) (by kernel_rfl) (fun _ _ _ h => h) ⟨by rfl, ?_⟩ hS ?_
  rotate_left
  · intro wq hSw; (try dsimp only at hSw); go_simp; try rfl
  simp only [Act.put, List.setIfInBounds_toArray, List.set_cons_zero, List.set_cons_succ]
  refine wpAnyH_ready (rs := [6]) (by kernel_rfl) (by simp) ?_
  refine AllReadyH.cons rfl (fun K hK => ?_) AllReadyH.nil
  go_simp
  go_wp2_with fail
  refine hK.out _ _ trivial (fun _ => ?_)
  clear hK K u2 f2
  refine wpAnyH_done (by kernel_rfl) ?_ _
  generalize w1.heap.size = s1 at *
  obtain ⟨⟨lab4, T4⟩, B4⟩ := HT3.out.putSaid j hj2 (s' := .slice none 0 0) (m := []) (Keep.refl _ _) (Owns.nil _ _ _ _) nofun
  obtain ⟨d1, d2, _, _⟩ := tcs_at (upd sd j (fun s => { s with p := s1, v := .slice none 0 0, l := [] })) vL vM j hj2
  obtain ⟨v1, g1⟩ := (HT3.out.tb id).get _ _ d1
  obtain ⟨v2, g2⟩ := (HT3.out.tb id).get _ _ d2
  rw [upd_same] at v1 v2
  dsimp only [ptrAt] at v1 v2
  rw [Nat.zero_add] at v1 g1
  have HT4 := hide T4
  have BL4 := BL3.trans B4
  generalize w2.setCell ⟨t, j, none⟩ (.pointer (some ⟨s1, 0, none⟩)) = w3 at *
  clear T4 B4 HT3 BL3 d1 d2
  have v1' : (w3.setCell ⟨t, 2 + j, none⟩ (.slice none 0 0)).cell? ⟨t, j, none⟩ = some (.pointer (some ⟨s1, 0, none⟩)) := (World.cell?_setCell_other _ _ _ _ (by simp)).trans v1
  go_wp2_with fail
  go_ret
  exact ⟨rfl, Tbl.fresh HT4.out hls HSD.out, BL4⟩
end Go.Proofs.YtllpfojkbeloeaaDoor
