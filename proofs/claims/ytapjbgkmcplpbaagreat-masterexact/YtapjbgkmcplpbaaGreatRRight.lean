import Derived.Test.YtapjbgkmcplpbaaGreatG17
import Derived.Test.YtapjbgkmcplpbaaGreatRd
import Derived.Test.YtapjbgkmcplpbaaGreatSmall
import Derived.Test.YtapjbgkmcplpbaaGreatTwo
import Derived.Deep.DeepCutAuto
namespace Go.Proofs.YtapjbgkmcplpbaaGreat
open Go.RowKit Go.QK

def rightT (L : List Nat) (i n : Nat) : Slot := if (apartB L).stands i n then apartB L else Slot.none
def rightB (L : List Nat) (i n : Nat) : Bool := decide ((apartB L).stands i n ∧ slotB (apartB L) = L)
theorem rem2 (m : Nat) : (m : Int).tmod 2 = ((m % 2 : Nat) : Int) := by rw [Int.tmod_eq_emod_of_nonneg (by omega)]; omega

set_option maxHeartbeats 8000000 in
set_option maxRecDepth 100000 in
/-- Is it a right slot? -/
theorem rRight_any (a : Option Addr) (L : List Nat) (c i n : Nat) (w : World) (hs : Bytes w a L) (hl : L.length = 512) (hb : AllB L) (hi : i < 2) (_hn : n ≤ 8192) :
    Calls Tryz.prog 96 #[.slice a 512 c, .int .i64 (i : Int), .int .i64 (n : Int)] w fun e w' => e = .returned (.tuple #[.agg (slotC (rightT L i n)), .bool (rightB L i n)]) ∧ Below w.heap.size w w' := by
  obtain ⟨s, hs0⟩ : ∃ s, s = apartB L := ⟨_, rfl⟩
  have fit := apartB_fit hb
  rw [← hs0] at fit
  obtain ⟨f1, f2, f3, f4, f5⟩ := fit
  obtain ⟨rt, hrt⟩ : ∃ rt, rt = rightT L i n := ⟨_, rfl⟩
  obtain ⟨rb, hrb⟩ : ∃ rb, rb = rightB L i n := ⟨_, rfl⟩
  rw [← hrt, ← hrb]
  unfold rightT at hrt
  unfold rightB at hrb
  rw [← hs0] at hrt hrb
  have HRT := hide hrt
  have HRB := hide hrb
  clear hrt hrb
  obtain ⟨w2, hw2⟩ : ∃ w2, w2 = (w.alloc (.cells zero5 113)).alloc (.cells zero5 113) := ⟨_, rfl⟩
  have z2 : w2.heap.size = w.heap.size + 2 := by rw [hw2]; simp
  have b2 : Below w.heap.size w w2 := by rw [hw2]; exact ((Below.refl _ w).alloc (Nat.le_refl _) _).alloc (by simp) _
  have R2 : SlotAt w2 w.heap.size Slot.none := by
    rw [hw2]
    have q : Cells (w.alloc (.cells zero5 113)) w.heap.size (slotC Slot.none).toList := Cells.new w zero5 113
    exact SlotAt.below q (alloc_below _ _)
  have T2 : SlotAt w2 (w.heap.size + 1) Slot.none := by
    have q : Cells ((w.alloc (.cells zero5 113)).alloc (.cells zero5 113)) (w.alloc (.cells zero5 113)).heap.size (slotC Slot.none).toList := Cells.new (w.alloc (.cells zero5 113)) zero5 113
    rw [World.size_alloc] at q
    rw [hw2]; exact q
  obtain ⟨w3, hw3⟩ : ∃ w3, w3 = w2.setCell ⟨w.heap.size + 1, 0, none⟩ (.int .u64 (s.stamp : Int)) := ⟨_, rfl⟩
  obtain ⟨w4, hw4⟩ : ∃ w4, w4 = put5 w2 (w.heap.size + 1) s := ⟨_, rfl⟩
  have k4 : Keep (fun k => k = w.heap.size + 1) w2 w4 := by rw [hw4]; exact put5_keep _ _ _
  have k3 : Keep (fun k => k = w.heap.size + 1) w2 w3 := by rw [hw3]; exact (Keep.refl (fun k => k = w.heap.size + 1) w2).setCell (fun _ => rfl) _
  have T4 : SlotAt w4 (w.heap.size + 1) s := by rw [hw4]; exact T2.put5 s
  have R4 := hide (R2.keep k4 (by omega))
  have b4 : Below w.heap.size w w4 := b2.trans (k4.below b2.size (fun k hk => by omega))
  have b3 : Below w.heap.size w w3 := b2.trans (k3.below b2.size (fun k hk => by omega))
  have wp : IntKind.i64.wrap (s.pages : Int) = (s.pages : Int) := wrapI_fit _ (by omega)
  have wl : IntKind.i64.wrap (s.log : Int) = (s.log : Int) := wrapI_fit _ (by omega)
  have wf : IntKind.i64.wrap (s.frames : Int) = (s.frames : Int) := wrapI_fit _ (by omega)
  have wq : IntKind.i64.wrap (s.point : Int) = (s.point : Int) := wrapI_fit _ (by omega)
  have wi : IntKind.u64.wrap (i : Int) = (i : Int) := wrap_fit _ (by omega)
  have G0 : Calls Tryz.prog 100 #[.slice a 512 c, .int .i64 1, .int .i64 8] w2 fun e w' => e = .returned (.tuple #[.int .u64 (s.stamp : Int), .int .i64 0]) ∧ w' = w2 := by
    have q := rGet_ok a c 1 8 L w2 (hs.below b2) hb (by omega) (by decide) (by decide) (by omega)
    rw [hl] at q
    rw [hs0]
    exact q
  have G0 := hide G0
  have G1 : Calls Tryz.prog 100 #[.slice a 512 c, .int .i64 9, .int .i64 1] w3 fun e w' => e = .returned (.tuple #[.int .u64 (s.pages : Int), .int .i64 0]) ∧ w' = w3 := by
    have q := rGet_ok a c 9 1 L w3 (hs.below b3) hb (by omega) (by decide) (by decide) (by omega)
    rw [hl] at q
    rw [hs0]
    exact q
  have G1 := hide G1
  have G2 : Calls Tryz.prog 100 #[.slice a 512 c, .int .i64 10, .int .i64 2] w3 fun e w' => e = .returned (.tuple #[.int .u64 (s.log : Int), .int .i64 0]) ∧ w' = w3 := by
    have q := rGet_ok a c 10 2 L w3 (hs.below b3) hb (by omega) (by decide) (by decide) (by omega)
    rw [hl] at q
    rw [hs0]
    exact q
  have G2 := hide G2
  have G3 : Calls Tryz.prog 100 #[.slice a 512 c, .int .i64 12, .int .i64 1] w3 fun e w' => e = .returned (.tuple #[.int .u64 (s.frames : Int), .int .i64 0]) ∧ w' = w3 := by
    have q := rGet_ok a c 12 1 L w3 (hs.below b3) hb (by omega) (by decide) (by decide) (by omega)
    rw [hl] at q
    rw [hs0]
    exact q
  have G3 := hide G3
  have G4 : Calls Tryz.prog 100 #[.slice a 512 c, .int .i64 13, .int .i64 4] w3 fun e w' => e = .returned (.tuple #[.int .u64 (s.point : Int), .int .i64 0]) ∧ w' = w3 := by
    have q := rGet_ok a c 13 4 L w3 (hs.below b3) hb (by omega) (by decide) (by decide) (by omega)
    rw [hl] at q
    rw [hs0]
    exact q
  have G4 := hide G4
  have KN := hide (rNeed_any (s.pages : Int) (s.log : Int) (s.frames : Int) w4)
  have HW2 := hide hw2
  have HW3 := hide hw3
  have HW4 := hide hw4
  have B4 := hide b4
  have HS := hide hs
  have HL := hide hl
  have ES := hide hs0
  have t0 := T2.at0
  have u0 := T2.fr 0 (by omega)
  have t1 := T2.at1
  have u1 := T2.fr 1 (by omega)
  have t2 := T2.at2
  have u2 := T2.fr 2 (by omega)
  have t3 := T2.at3
  have u3 := T2.fr 3 (by omega)
  have t4 := T2.at4
  have u4 := T2.fr 4 (by omega)
  have X3 : SlotAt w3 (w.heap.size + 1) { Slot.none with stamp := s.stamp } := by rw [hw3]; exact Cells.stored T2 (j := 0) (by simp [slotC]) _
  have v1 := X3.at1
  have y1 := X3.fr 1 (by omega)
  have v2 := X3.at2
  have y2 := X3.fr 2 (by omega)
  have v3 := X3.at3
  have y3 := X3.fr 3 (by omega)
  have v4 := X3.at4
  have y4 := X3.fr 4 (by omega)
  unfold zero5 at HW2
  unfold put5 at HW4
  rw [← hw3] at HW4
  simp only [Slot.none] at t0 t1 t2 t3 t4 v1 v2 v3 v4
  have T4 := hide T4
  have Z2 := hide z2
  clear hw2 hw3 hw4 b4 b3 b2 k3 k4 hs hs0 T2 R2 hl z2 X3
  go_enter Tryz.func96, Tryz.ntmps96
  go_upto_region 4 with fail
  rw [← HW2.out]
  clear HW2
  go_wp2_with fail
  refine G0.out.mono ?_
  rintro e w' ⟨rfl, hw⟩
  obtain rfl : w2 = w' := hw.symm
  go_upto_region 5 with fail
  rw [← HW3.out]
  clear t0 t1 t2 t3 t4 u0 u1 u2 u3 u4 G0
  go_wp2_with fail
  refine G1.out.mono ?_
  rintro e w' ⟨rfl, hw⟩
  obtain rfl : w3 = w' := hw.symm
  clear G1
  go_wp2_with fail
  refine G2.out.mono ?_
  rintro e w' ⟨rfl, hw⟩
  obtain rfl : w3 = w' := hw.symm
  clear G2
  go_wp2_with fail
  refine G3.out.mono ?_
  rintro e w' ⟨rfl, hw⟩
  obtain rfl : w3 = w' := hw.symm
  clear G3
  go_wp2_with fail
  refine G4.out.mono ?_
  rintro e w' ⟨rfl, hw⟩
  obtain rfl : w3 = w' := hw.symm
  clear G4
  go_upto_region 11 with fail
  rw [← HW4.out]
  clear HW4 HW3 v1 v2 v3 v4 y1 y2 y3 y4
  obtain ⟨d0, d1, d2, d3, d4⟩ := T4.out.five
  unfold shC at KN
  go_wp2_with fail
  refine KN.out.mono ?_
  rintro e w5 ⟨rfl, b5⟩
  have T5 := hide (T4.out.below b5)
  have R5 := hide (R4.out.below b5)
  have B5 := hide (bnext B4.out b5 (Nat.le_refl _))
  have HI := hide (show w.heap.size + 1 < w5.heap.size from Nat.lt_of_lt_of_le T4.out.1 b5.size)
  clear b5 KN d0 d1 d2 d3 d4 T4 R4 B4
  obtain ⟨d0, d1, d2, d3, d4⟩ := T5.out.five
  go_upto_region 12 with fail
  by_cases hst : s.stands i n
  · have ST := hide hst
    obtain ⟨h1, h2, h3, ⟨h4, h5⟩, h6⟩ := hst
    have e1 : needN (s.pages : Int) (s.log : Int) (s.frames : Int) = (n : Int) := by unfold needN; rw [if_pos h4]; exact h5
    have e2 : mayE (s.pages : Int) (s.log : Int) (s.frames : Int) = 0 := if_pos h4
    rw [e1, e2]
    go_cut [95] (fun r w' => r = .bool false ∧ w' = w5)
    case first =>
      have g1 : ¬ ((s.stamp : Int) < 1) := by omega
      have g2 : ¬ ((4611686018427387904 : Int) < (s.stamp : Int)) := by omega
      have g3 : (s.stamp : Int).tmod 2 = (i : Int) := by rw [rem2]; omega
      have g4 : ¬ ((2147483647 : Int) < (s.point : Int)) := by omega
      clear h1 h2 h3 h4 h5 h6 e1 e2
      go_wp2_with fail
      go_meet
      exact ⟨rfl, rfl⟩
    case rest =>
      obtain ⟨hs95, hwc⟩ := hcut
      subst hwc
      subst hs95
      clear h1 h2 h3 h4 h5 h6 e1 e2
      have EQ := hide (show decide (s.stands i n ∧ slotB s = L) = decide (L = slotB s) from decide_eq_decide.2 ⟨fun q => q.2.symm, fun q => ⟨ST.out, q.symm⟩⟩)
      have SE := hide (str_eq hb (slotB_allB s))
      obtain ⟨bq, hbq⟩ : ∃ bq, bq = decide (L = slotB s) := ⟨_, rfl⟩
      rw [← hbq] at SE EQ
      have FA := hide (show Ending.returned (.tuple #[.agg (slotC rt), .bool rb]) = Ending.returned (.tuple #[.agg (slotC s), .bool bq]) by rw [HRT.out, HRB.out, if_pos ST.out, EQ.out])
      have HBQ := hide hbq
      have KS := rSlot_any s ST.out.fit wc.drew
      unfold shC at KS
      have KS := hide KS
      clear hbq
      go_wp2_with fail
      refine wp_region_held_drew (S := fun wq => Five (w.heap.size + 1) s wq ∧ Bytes wq a L) (by kernel_rfl) ⟨T5.out.five, (show Bytes wc a L from Seen.below HS.out B5.out)⟩ (fun hS => ?_)
      refine take_at 0 (some 97) (v := ?_) rfl rfl (by kernel_rfl) (by kernel_rfl) (by kernel_rfl) (fun _ _ _ h => h) ⟨by rfl, ?_⟩ hS ?_
      rotate_left
      · intro wq hSw; obtain ⟨⟨x0, x1, x2, x3, x4⟩, xb⟩ := hSw; go_simp; try rfl
      simp only [Act.put, List.setIfInBounds_toArray, List.set_cons_zero, List.set_cons_succ]
      refine take_at 1 (some 98) (v := ?_) rfl rfl (by kernel_rfl) (by kernel_rfl) (by kernel_rfl) (fun _ _ _ h => h) ⟨by rfl, ?_⟩ hS ?_
      rotate_left
      · intro wq hSw; go_simp; try rfl
      simp only [Act.put, List.setIfInBounds_toArray, List.set_cons_zero, List.set_cons_succ]
      refine take_at 2 (some 99) (v := ?_) rfl rfl (by kernel_rfl) (by kernel_rfl) (by kernel_rfl) (fun _ _ _ h => h) ⟨by rfl, ?_⟩ hS ?_
      rotate_left
      · intro wq hSw; obtain ⟨⟨x0, x1, x2, x3, x4⟩, xb⟩ := hSw; have cv := conv_any a L c wq xb; rw [HL.out] at cv; go_simp; try rfl
      simp only [Act.put, List.setIfInBounds_toArray, List.set_cons_zero, List.set_cons_succ]
      refine take_at 3 (some 100) (v := ?_) rfl rfl (by kernel_rfl) (by kernel_rfl) (by kernel_rfl) (fun _ _ _ h => h) ⟨by rfl, ?_⟩ hS ?_
      rotate_left
      · intro wq hSw; go_simp; try rfl
      simp only [Act.put, List.setIfInBounds_toArray, List.set_cons_zero, List.set_cons_succ]
      refine take_at 4 (some 101) (v := ?_) rfl rfl (by kernel_rfl) (by kernel_rfl) (by kernel_rfl) (fun _ _ _ h => h) ⟨by rfl, ?_⟩ hS ?_
      rotate_left
      · intro wq hSw; obtain ⟨⟨x0, x1, x2, x3, x4⟩, xb⟩ := hSw; go_simp; try rfl
      simp only [Act.put, List.setIfInBounds_toArray, List.set_cons_zero, List.set_cons_succ]
      refine take_at 5 (some 102) (v := ?_) rfl rfl (by kernel_rfl) (by kernel_rfl) (by kernel_rfl) (fun _ _ _ h => h) ⟨by rfl, ?_⟩ hS ?_
      rotate_left
      · intro wq hSw; go_simp; try rfl
      simp only [Act.put, List.setIfInBounds_toArray, List.set_cons_zero, List.set_cons_succ]
      refine take_at 6 (some 103) (v := ?_) rfl rfl (by kernel_rfl) (by kernel_rfl) (by kernel_rfl) (fun _ _ _ h => h) ⟨by rfl, ?_⟩ hS ?_
      rotate_left
      · intro wq hSw; obtain ⟨⟨x0, x1, x2, x3, x4⟩, xb⟩ := hSw; go_simp; try rfl
      simp only [Act.put, List.setIfInBounds_toArray, List.set_cons_zero, List.set_cons_succ]
      refine take_at 7 (some 104) (v := ?_) rfl rfl (by kernel_rfl) (by kernel_rfl) (by kernel_rfl) (fun _ _ _ h => h) ⟨by rfl, ?_⟩ hS ?_
      rotate_left
      · intro wq hSw; go_simp; try rfl
      simp only [Act.put, List.setIfInBounds_toArray, List.set_cons_zero, List.set_cons_succ]
      refine take_at 8 (some 105) (v := ?_) rfl rfl (by kernel_rfl) (by kernel_rfl) (by kernel_rfl) (fun _ _ _ h => h) ⟨by rfl, ?_⟩ hS ?_
      rotate_left
      · intro wq hSw; obtain ⟨⟨x0, x1, x2, x3, x4⟩, xb⟩ := hSw; go_simp; try rfl
      simp only [Act.put, List.setIfInBounds_toArray, List.set_cons_zero, List.set_cons_succ]
      refine wpAnyH_ready (rs := [9]) (by kernel_rfl) (by simp) ?_
      refine AllReadyH.cons rfl (fun K hK => ?_) AllReadyH.nil
      go_simp
      go_wp2_with fail
      refine KS.out.mono ?_
      rintro e w6 ⟨gs, rfl, o6, b6⟩
      have T6 := hide (T5.out.below (below_undrew b6))
      have R6 := hide (R5.out.below (below_undrew b6))
      have B6 := hide (bnext B5.out (below_undrew b6) (Nat.le_refl _))
      have cv6 := conv_any (some ⟨gs, 0, none⟩) (slotB s) 512 w6 (Owns.seen_at o6)
      rw [slotB_length] at cv6
      have SG := hide (Owns.seen_at o6)
      have GS := hide (show wc.heap.size ≤ gs from (World.ownsRow.lt o6 gs rfl).1)
      have HI6 : w.heap.size + 1 < w6.heap.size := Nat.lt_of_lt_of_le HI.out b6.size
      have BS6 := hide (HS.out.below B6.out)
      clear b6 o6 KS T5 R5 B5
      go_wp2_with fail
      refine hK.out _ _ ⟨T6.out.five, BS6.out⟩ (fun hS => ?_)
      clear hK K
      (try simp only [Act.put, List.setIfInBounds_toArray, List.set_cons_zero, List.set_cons_succ])
      obtain ⟨w7, hw7⟩ : ∃ w7, w7 = put5 w6 w.heap.size s := ⟨_, rfl⟩
      have k7 : Keep (fun k => k = w.heap.size) w6 w7 := by rw [hw7]; exact put5_keep _ _ _
      have E7 := hide (show SlotAt w7 w.heap.size s by rw [hw7]; exact R6.out.put5 s)
      have T7 := hide (T6.out.keep k7 (by omega))
      have B7 : Below w.heap.size w w7 := B6.out.trans (k7.below (by omega) (fun k hk => by omega))
      have cv7 := conv_any (some ⟨gs, 0, none⟩) (slotB s) 512 w7 (Seen.keep SG.out k7 (fun ad had => by cases had; have := GS.out; have := HI.out; show ¬ gs = w.heap.size; omega))
      rw [slotB_length] at cv7
      have q0 := R6.out.at0
      have q1 := R6.out.at1
      have q2 := R6.out.at2
      have q3 := R6.out.at3
      have q4 := R6.out.at4
      have r0 := R6.out.fr 0 (by omega)
      have r1 := R6.out.fr 1 (by omega)
      have r2 := R6.out.fr 2 (by omega)
      have r3 := R6.out.fr 3 (by omega)
      have r4 := R6.out.fr 4 (by omega)
      have HW7 := hide hw7
      unfold put5 at HW7
      have B7 := hide B7
      have BS7 := hide (HS.out.below B7.out)
      clear hw7 k7 R6 B6
      refine wpAnyH_ready (rs := [10, 12]) (by kernel_rfl) (by simp) ?_
      refine AllReadyH.cons rfl (fun K hK => ?_) (AllReadyH.cons rfl (fun K hK => ?_) AllReadyH.nil)
      · go_simp
        go_wp2_with fail
        refine hK.out _ _ ⟨T6.out.five, BS6.out⟩ (fun hS => ?_)
        clear hK K
        (try simp only [Act.put, List.setIfInBounds_toArray, List.set_cons_zero, List.set_cons_succ])
        refine take_at 11 (some 108) (v := ?_) rfl rfl (by kernel_rfl) (by kernel_rfl) (by kernel_rfl) (fun _ _ _ h => h) ⟨by rfl, ?_⟩ hS ?_
        rotate_left
        · intro wq hSw; go_simp; try rfl
        simp only [Act.put, List.setIfInBounds_toArray, List.set_cons_zero, List.set_cons_succ]
        refine wpAnyH_ready (rs := [12]) (by kernel_rfl) (by simp) ?_
        refine AllReadyH.cons rfl (fun K hK => ?_) AllReadyH.nil
        go_simp
        go_wp2_with fail
        rw [← HW7.out]
        refine hK.out _ _ ⟨T7.out.five, BS7.out⟩ (fun hS => ?_)
        clear hK K
        (try simp only [Act.put, List.setIfInBounds_toArray, List.set_cons_zero, List.set_cons_succ])
        refine take_at 13 (some 7) (v := ?_) rfl rfl (by kernel_rfl) (by kernel_rfl) (by kernel_rfl) (fun _ _ _ h => h) ⟨by rfl, ?_⟩ hS ?_
        rotate_left
        · intro wq hSw; go_simp; try rfl
        simp only [Act.put, List.setIfInBounds_toArray, List.set_cons_zero, List.set_cons_succ]
        refine wpAnyH_done (by kernel_rfl) ?_ _
        go_wp2_with fail
        have j0 := E7.out.at0
        have j1 := E7.out.at1
        have j2 := E7.out.at2
        have j3 := E7.out.at3
        have j4 := E7.out.at4
        have SE2 := SE.out
        exact bodyPost_ret (v := .tuple #[.agg (slotC s), .bool bq]) (by simp [results, Tryz.results96, go_sem, j0, j1, j2, j3, j4, slotC, SE2]) rfl ⟨FA.out.symm, B7.out⟩
      · go_simp
        go_wp2_with fail
        rw [← HW7.out]
        refine hK.out _ _ ⟨T7.out.five, BS7.out⟩ (fun hS => ?_)
        clear hK K
        (try simp only [Act.put, List.setIfInBounds_toArray, List.set_cons_zero, List.set_cons_succ])
        refine wpAnyH_ready (rs := [10]) (by kernel_rfl) (by simp) ?_
        refine AllReadyH.cons rfl (fun K hK => ?_) AllReadyH.nil
        go_simp
        go_wp2_with fail
        refine hK.out _ _ ⟨T7.out.five, BS7.out⟩ (fun hS => ?_)
        clear hK K
        (try simp only [Act.put, List.setIfInBounds_toArray, List.set_cons_zero, List.set_cons_succ])
        refine take_at 11 (some 108) (v := ?_) rfl rfl (by kernel_rfl) (by kernel_rfl) (by kernel_rfl) (fun _ _ _ h => h) ⟨by rfl, ?_⟩ hS ?_
        rotate_left
        · intro wq hSw; go_simp; try rfl
        simp only [Act.put, List.setIfInBounds_toArray, List.set_cons_zero, List.set_cons_succ]
        refine take_at 13 (some 7) (v := ?_) rfl rfl (by kernel_rfl) (by kernel_rfl) (by kernel_rfl) (fun _ _ _ h => h) ⟨by rfl, ?_⟩ hS ?_
        rotate_left
        · intro wq hSw; go_simp; try rfl
        simp only [Act.put, List.setIfInBounds_toArray, List.set_cons_zero, List.set_cons_succ]
        refine wpAnyH_done (by kernel_rfl) ?_ _
        go_wp2_with fail
        have j0 := E7.out.at0
        have j1 := E7.out.at1
        have j2 := E7.out.at2
        have j3 := E7.out.at3
        have j4 := E7.out.at4
        have SE2 := SE.out
        exact bodyPost_ret (v := .tuple #[.agg (slotC s), .bool bq]) (by simp [results, Tryz.results96, go_sem, j0, j1, j2, j3, j4, slotC, SE2]) rfl ⟨FA.out.symm, B7.out⟩
  · have FA := hide (show Ending.returned (.tuple #[.agg (slotC rt), .bool rb]) = Ending.returned (.tuple #[.agg (slotC Slot.none), .bool false]) by rw [HRT.out, HRB.out, if_neg hst, decide_eq_false (fun q => hst q.1)])
    have NS := hide hst
    obtain ⟨nd, hnd⟩ : ∃ nd, nd = needN (s.pages : Int) (s.log : Int) (s.frames : Int) := ⟨_, rfl⟩
    obtain ⟨me, hme⟩ : ∃ me : Int, me = ((mayE (s.pages : Int) (s.log : Int) (s.frames : Int) : Nat) : Int) := ⟨_, rfl⟩
    rw [← hnd, ← hme]
    have HND := hide hnd
    have HME := hide hme
    clear hnd hme
    go_cut [95] (fun r w' => r = .bool true ∧ w' = w5)
    case first =>
      by_cases h4 : mayN (s.pages : Int) (s.log : Int) (s.frames : Int)
      · have e1 : nd = 5 + 2 * (s.pages : Int) + (s.log : Int) := HND.out.trans (if_pos h4)
        have e2 : (me != 0) = false := by rw [HME.out, show mayE (s.pages : Int) (s.log : Int) (s.frames : Int) = 0 from if_pos h4]; rfl
        by_cases h5 : nd = (n : Int)
        · have g5 : (nd != (n : Int)) = false := by simpa using h5
          by_cases h1 : 1 ≤ s.stamp
          · by_cases h2 : s.stamp ≤ 4611686018427387904
            · by_cases h3 : s.stamp % 2 = i
              · have h6 : ¬ s.point ≤ 2147483647 := fun q => hst ⟨h1, h2, h3, ⟨h4, by rw [← e1]; exact h5⟩, q⟩
                have g1 : ¬ ((s.stamp : Int) < 1) := by omega
                have g2 : ¬ ((4611686018427387904 : Int) < (s.stamp : Int)) := by omega
                have g3 : (s.stamp : Int).tmod 2 = (i : Int) := by rw [rem2]; omega
                have g4 : (2147483647 : Int) < (s.point : Int) := by omega
                clear h1 h2 h3 h4 h5 h6 e1
                clear hst
                go_wp2_with fail
                go_meet
                exact ⟨rfl, rfl⟩
              · have g3 : ((s.stamp : Int).tmod 2 == (i : Int)) = false := by rw [rem2, beq_eq_false_iff_ne]; omega
                have g3' : ¬ ((s.stamp : Int).tmod 2 = (i : Int)) := by rw [rem2]; omega
                have g3'' : ((s.stamp : Int).tmod 2 != (i : Int)) = true := by rw [rem2, bne_iff_ne]; omega
                have g1 : ¬ ((s.stamp : Int) < 1) := by omega
                have g2 : ¬ ((4611686018427387904 : Int) < (s.stamp : Int)) := by omega
                clear h1 h2 h3 h4 h5 e1
                clear hst
                go_wp2_with fail
                go_meet
                exact ⟨rfl, rfl⟩
            · have g2 : (4611686018427387904 : Int) < (s.stamp : Int) := by omega
              have g1 : ¬ ((s.stamp : Int) < 1) := by omega
              clear h1 h2 h4 h5 e1
              clear hst
              go_wp2_with fail
              go_meet
              exact ⟨rfl, rfl⟩
          · have g1 : (s.stamp : Int) < 1 := by omega
            clear h1 h4 h5 e1
            clear hst
            go_wp2_with fail
            go_meet
            exact ⟨rfl, rfl⟩
        · have g5 : (nd != (n : Int)) = true := by rw [bne_iff_ne]; exact h5
          clear h4 h5 e1
          clear hst
          go_wp2_with fail
          go_meet
          exact ⟨rfl, rfl⟩
      · have e2 : (me != 0) = true := by rw [HME.out, show mayE (s.pages : Int) (s.log : Int) (s.frames : Int) = 2 from if_neg h4]; rfl
        clear h4
        clear hst
        go_wp2_with fail
        go_meet
        exact ⟨rfl, rfl⟩
    case rest =>
      obtain ⟨hs95, hwc⟩ := hcut
      subst hwc
      subst hs95
      obtain ⟨w7, hw7⟩ : ∃ w7, w7 = put0 wc w.heap.size := ⟨_, rfl⟩
      have k7 : Keep (fun k => k = w.heap.size) wc w7 := by rw [hw7]; exact put5_keep wc w.heap.size Slot.none
      have E7 : SlotAt w7 w.heap.size Slot.none := by rw [hw7]; exact R5.out.put5 Slot.none
      have B7 : Below w.heap.size w w7 := B5.out.trans (k7.below B5.out.size (fun k hk => by omega))
      have q0 := R5.out.at0
      have q1 := R5.out.at1
      have q2 := R5.out.at2
      have q3 := R5.out.at3
      have q4 := R5.out.at4
      have r0 := R5.out.fr 0 (by omega)
      have r1 := R5.out.fr 1 (by omega)
      have r2 := R5.out.fr 2 (by omega)
      have r3 := R5.out.fr 3 (by omega)
      have r4 := R5.out.fr 4 (by omega)
      simp only [Slot.none] at q0 q1 q2 q3 q4
      have HW7 := hide hw7
      unfold put0 at HW7
      have B7 := hide B7
      clear hw7 k7 d0 d1 d2 d3 d4 hst
      go_wp2_with fail
      rw [← HW7.out]
      have j0 := E7.at0
      have j1 := E7.at1
      have j2 := E7.at2
      have j3 := E7.at3
      have j4 := E7.at4
      exact bodyPost_ret (v := .tuple #[.agg (slotC Slot.none), .bool false]) (by simp [results, Tryz.results96, go_sem, j0, j1, j2, j3, j4, slotC]) rfl ⟨FA.out.symm, B7.out⟩
end Go.Proofs.YtapjbgkmcplpbaaGreat
