import Derived.Test.YtapjbgkmcplpbaaGreatRFld
import Derived.Test.YtapjbgkmcplpbaaGreatSect3
import Derived.Test.YtapjbgkmcplpbaaGreatG12
import Derived.Test.YtapjbgkmcplpbaaGreatG05
import Derived.Deep.QuietTactic
import Derived.BigQuiet
namespace Go.Proofs.YtapjbgkmcplpbaaGreat
open Go.RowKit Go.QK

set_option maxHeartbeats 2000000 in
set_option maxRecDepth 100000 in
/-- The document's slot. -/
theorem rSlot_any (s : Slot) (hf : s.Fit) (w : World) :
    Calls Tryz.prog 64 #[.int .u64 (s.stamp : Int), .agg (shC s.pages s.log s.frames), .int .i64 (s.point : Int)] w fun e w' => ∃ g, e = .returned (.slice (some ⟨g, 0, none⟩) 512 512) ∧ OwnB w' w.heap.size (.slice (some ⟨g, 0, none⟩) 512 512) (slotB s) ∧ Below w.heap.size w w' := by
  obtain ⟨f1, f2, f3, f4, f5⟩ := hf
  obtain ⟨w1, hw1⟩ : ∃ w1, w1 = w.alloc (.cells #[.int .i64 (s.pages : Int), .int .i64 (s.log : Int), .int .i64 (s.frames : Int)] 23) := ⟨_, rfl⟩
  have z1 : w1.heap.size = w.heap.size + 1 := by rw [hw1]; simp
  have b1 : Below w.heap.size w w1 := by rw [hw1]; exact alloc_below _ _
  have C1 : cell3 w1 w.heap.size s.pages s.log s.frames := by rw [hw1]; exact cell3.new w _ _ _
  obtain ⟨w2, m2, o2, b2, h2⟩ := makeB w1 512 (by omega)
  simp only [show ((512 : Nat) : Int) = 512 from rfl] at m2
  obtain ⟨g, hg⟩ : ∃ g, g = w1.heap.size := ⟨_, rfl⟩
  rw [← hg] at m2 o2 h2
  have q2 : IntKind.u64.wrap (s.pages : Int) = (s.pages : Int) := wrap_fit _ (by omega)
  have q3 : IntKind.u64.wrap (s.log : Int) = (s.log : Int) := wrap_fit _ (by omega)
  have q4 : IntKind.u64.wrap (s.frames : Int) = (s.frames : Int) := wrap_fit _ (by omega)
  have q5 : IntKind.u64.wrap (s.point : Int) = (s.point : Int) := wrap_fit _ (by omega)
  have hz : (ints (List.replicate 512 0)).length = 512 := by simp
  obtain ⟨b0, off0, e0, _, c0⟩ := Bytes.at (Owns.seen_at o2) (i := 0) (by rw [List.length_replicate]; decide)
  cases e0
  have fz := Owns.frozen o2 0
  obtain ⟨w3, hw3⟩ : ∃ w3, w3 = w2.setCell ⟨g, 0, none⟩ (.int .u8 77) := ⟨_, rfl⟩
  have o3 : OwnB w3 g (.slice (some ⟨g, 0, none⟩) 512 512) ((List.replicate 512 0).set 0 77) := by
    rw [hw3]; unfold OwnB; rw [ints_set']; exact Owns.stored o2 0 77
  have k3 : Keep (fun b => b = g) w2 w3 := by rw [hw3]; exact (Keep.refl (fun b => b = g) _).setCell (fun _ => rfl) _
  have C2 := C1.below b2
  have B2 := bnext b1 b2 (Nat.le_refl _)
  have C3 := hide (C2.keep k3 (by omega))
  have B3 := hide (B2.trans (k3.below B2.size (fun j hj q => by omega)))
  have g0 : w.heap.size < g := by omega
  obtain ⟨L0, hL0⟩ : ∃ L0, L0 = (List.replicate 512 0).set 0 77 := ⟨_, rfl⟩
  rw [← hL0] at o3
  have HL0 := hide (show L0.length = 512 by rw [hL0]; simp)
  have EL := hide hL0
  have O3 := hide o3
  have HW1 := hide hw1
  have HW3 := hide hw3
  clear hw1 hw3 b1 C1 o2 b2 h2 o3 k3 C2 B2 hz hL0
  unfold shC
  have HG := hide hg
  clear hg z1
  go_enter Tryz.func64, Tryz.ntmps64
  go_upto_region 1 with fail
  rw [← HW1.out]
  clear HW1
  go_upto_region 3 with fail
  rw [← HW3.out]
  clear HW3 m2 fz c0
  have K3 := rPut_ok g 512 512 1 8 s.stamp g L0 w3 O3.out (by decide) (by decide) (by decide) (by decide) (by rw [HL0.out]; decide) (show s.stamp < 18446744073709551616 from f1) (by omega)
  simp only [show ((1 : Nat) : Int) = 1 from rfl, show ((8 : Nat) : Int) = 8 from rfl] at K3
  have K3 := hide K3
  go_wp2_with fail
  refine K3.out.mono ?_
  rintro e w4 ⟨rfl, o4, k4⟩
  have O4 := hide (show OwnB w4 g (.slice (some ⟨g, 0, none⟩) 512 512) (laid1 s) from by unfold laid1; rw [← EL.out]; exact o4)
  have C4 := hide (C3.out.keep k4 (by omega))
  have B4 := hide (B3.out.trans (k4.below B3.out.size (fun j hj q => by omega)))
  clear o4 k4 O3 C3 B3 K3 
  have x0 := C4.out.c0
  have K4 := rPut_ok g 512 512 9 1 s.pages g (laid1 s) w4 O4.out (by decide) (by decide) (by decide) (by decide) (by unfold laid1; simp) (show s.pages < 256 from f2) (by omega)
  simp only [show ((9 : Nat) : Int) = 9 from rfl, show ((1 : Nat) : Int) = 1 from rfl] at K4
  have K4 := hide K4
  go_wp2_with fail
  refine K4.out.mono ?_
  rintro e w5 ⟨rfl, o5, k5⟩
  have O5 := hide (show OwnB w5 g (.slice (some ⟨g, 0, none⟩) 512 512) (laid2 s) from o5)
  have C5 := hide (C4.out.keep k5 (by omega))
  have B5 := hide (B4.out.trans (k5.below B4.out.size (fun j hj q => by omega)))
  clear o5 k5 O4 C4 B4 K4 x0
  have x1 := C5.out.c1
  have K5 := rPut_ok g 512 512 10 2 s.log g (laid2 s) w5 O5.out (by decide) (by decide) (by decide) (by decide) (by unfold laid2 laid1; simp) (show s.log < 65536 from f3) (by omega)
  simp only [show ((10 : Nat) : Int) = 10 from rfl, show ((2 : Nat) : Int) = 2 from rfl] at K5
  have K5 := hide K5
  go_wp2_with fail
  refine K5.out.mono ?_
  rintro e w6 ⟨rfl, o6, k6⟩
  have O6 := hide (show OwnB w6 g (.slice (some ⟨g, 0, none⟩) 512 512) (laid3 s) from o6)
  have C6 := hide (C5.out.keep k6 (by omega))
  have B6 := hide (B5.out.trans (k6.below B5.out.size (fun j hj q => by omega)))
  clear o6 k6 O5 C5 B5 K5 x1
  have x2 := C6.out.c2
  have K6 := rPut_ok g 512 512 12 1 s.frames g (laid3 s) w6 O6.out (by decide) (by decide) (by decide) (by decide) (by unfold laid3 laid2 laid1; simp) (show s.frames < 256 from f4) (by omega)
  simp only [show ((12 : Nat) : Int) = 12 from rfl, show ((1 : Nat) : Int) = 1 from rfl] at K6
  have K6 := hide K6
  go_wp2_with fail
  refine K6.out.mono ?_
  rintro e w7 ⟨rfl, o7, k7⟩
  have O7 := hide (show OwnB w7 g (.slice (some ⟨g, 0, none⟩) 512 512) (laid4 s) from o7)
  have C7 := hide (C6.out.keep k7 (by omega))
  have B7 := hide (B6.out.trans (k7.below B6.out.size (fun j hj q => by omega)))
  clear o7 k7 O6 C6 B6 K6 x2
  have K7 := rPut_ok g 512 512 13 4 s.point g (laid4 s) w7 O7.out (by decide) (by decide) (by decide) (by decide) (by unfold laid4 laid3 laid2 laid1; simp) (show s.point < 4294967296 from f5) (by omega)
  simp only [show ((13 : Nat) : Int) = 13 from rfl, show ((4 : Nat) : Int) = 4 from rfl] at K7
  have K7 := hide K7
  go_wp2_with fail
  refine K7.out.mono ?_
  rintro e w8 ⟨rfl, o8, k8⟩
  have O8 := hide (show OwnB w8 g (.slice (some ⟨g, 0, none⟩) 512 512) (laid5 s) from o8)
  have C8 := hide (C7.out.keep k8 (by omega))
  have B8 := hide (B7.out.trans (k8.below B7.out.size (fun j hj q => by omega)))
  clear o8 k8 O7 C7 B7 K7 
  obtain ⟨b1, off1, e1, _, c1⟩ := Bytes.at (Owns.seen_at O8.out) (i := 1) (by rw [laid5_length]; decide)
  cases e1
  rw [laid5_one] at c1
  obtain ⟨b2, off2, e2, _, c2⟩ := Bytes.at (Owns.seen_at O8.out) (i := 511) (by rw [laid5_length]; decide)
  cases e2
  have fz := Owns.frozen O8.out 511
  obtain ⟨w9, hw9⟩ : ∃ w9, w9 = w8.setCell ⟨g, 511, none⟩ (.int .u8 ((s.stamp % 256 : Nat) : Int)) := ⟨_, rfl⟩
  have o9 : OwnB w9 g (.slice (some ⟨g, 0, none⟩) 512 512) (slotB s) := by
    rw [hw9, ← laid5_set]; unfold OwnB; rw [ints_set']; exact Owns.stored O8.out 511 _
  have k9 : Keep (fun b => b = g) w8 w9 := by rw [hw9]; exact (Keep.refl (fun b => b = g) _).setCell (fun _ => rfl) _
  have B9 := hide (B8.out.trans (k9.below B8.out.size (fun j hj q => by omega)))
  obtain ⟨x, hx⟩ : ∃ x, x = s.stamp % 256 := ⟨_, rfl⟩
  rw [← hx] at c1 hw9
  have HW9 := hide hw9
  have O9 := hide (Owns.base o9 (Nat.le_of_lt g0))
  generalize (laid5 s).getD 511 0 = y at *
  clear hw9 o9 k9 B8 O8 C8 hx
  simp only [Nat.zero_add] at c1 c2
  go_wp2_with fail
  rw [← HW9.out]
  go_ret
  exact ⟨g, rfl, O9.out, B9.out⟩
end Go.Proofs.YtapjbgkmcplpbaaGreat

namespace Go.Proofs.YtapjbgkmcplpbaaGreat
open Go.RowKit Go.QK

def homeE (p l f page : Int) : Nat := if ¬ mayN p l f then 2 else if page < 0 ∨ p ≤ page then 4 else 0
def homeN (p l f page : Int) : Int := if homeE p l f page = 0 then 5 + 2 * page else 0
set_option maxHeartbeats 1000000 in
set_option maxRecDepth 100000 in
theorem homeOf_any (p l f page : Int) (w : World) : Calls Tryz.prog 10 #[.agg (shC p l f), .int .i64 page] w fun e w' => e = .returned (.tuple #[.int .i64 (homeN p l f page), .int .i64 ((homeE p l f page : Nat) : Int)]) ∧ Below w.heap.size w w' := by
  have K := mayBe_any p l f (w.alloc (.cells #[.int .i64 p, .int .i64 l, .int .i64 f] 23))
  have C0 := cell3.new w p l f
  have B0 := alloc_below w (.cells #[.int .i64 p, .int .i64 l, .int .i64 f] 23)
  unfold homeN homeE
  unfold shC at K ⊢
  by_cases h : mayN p l f
  · rw [if_neg (not_not_intro h)]
    rw [decide_eq_true h] at K
    have K := hide K
    have hp : 2 ≤ p ∧ p ≤ 64 := ⟨h.1, h.2.1⟩
    clear h
    by_cases q1 : page < 0
    · rw [if_pos (show page < 0 ∨ p ≤ page from .inl q1)]
      go_enter Tryz.func10, Tryz.ntmps10
      go_wp2_with fail
      refine K.out.mono ?_
      rintro e w1 ⟨rfl, b1⟩
      have c0 := (C0.below b1).c0
      have B1 := hide (bnext B0 b1 (Nat.le_refl _))
      clear K b1 C0 B0
      go_wp2_with fail
      exact bodyPost_ret (v := .tuple #[.int .i64 0, .int .i64 4]) (by simp [results, Tryz.results10, go_sem]) rfl ⟨rfl, B1.out⟩
    · by_cases q2 : p ≤ page
      · rw [if_pos (show page < 0 ∨ p ≤ page from .inr q2)]
        have q1' : ¬ page < 0 := q1
        go_enter Tryz.func10, Tryz.ntmps10
        go_wp2_with fail
        refine K.out.mono ?_
        rintro e w1 ⟨rfl, b1⟩
        have c0 := (C0.below b1).c0
        have B1 := hide (bnext B0 b1 (Nat.le_refl _))
        clear K b1 C0 B0
        go_wp2_with fail
        exact bodyPost_ret (v := .tuple #[.int .i64 0, .int .i64 4]) (by simp [results, Tryz.results10, go_sem]) rfl ⟨rfl, B1.out⟩
      · rw [if_neg (show ¬ (page < 0 ∨ p ≤ page) by omega)]
        have e1 : wrap64 (2 * page) = 2 * page := by unfold wrap64; omega
        have e2 : wrap64 (5 + 2 * page) = 5 + 2 * page := by unfold wrap64; omega
        go_enter Tryz.func10, Tryz.ntmps10
        go_wp2_with fail
        refine K.out.mono ?_
        rintro e w1 ⟨rfl, b1⟩
        have c0 := (C0.below b1).c0
        have B1 := hide (bnext B0 b1 (Nat.le_refl _))
        clear K b1 C0 B0
        go_wp2_with fail
        exact bodyPost_ret (v := .tuple #[.int .i64 (5 + 2 * page), .int .i64 0]) (by simp [results, Tryz.results10, go_sem]) rfl ⟨rfl, B1.out⟩
  · rw [if_pos h]
    rw [decide_eq_false h] at K
    have K := hide K
    clear h
    go_enter Tryz.func10, Tryz.ntmps10
    go_wp2_with fail
    refine K.out.mono ?_
    rintro e w1 ⟨rfl, b1⟩
    have B1 := hide (bnext B0 b1 (Nat.le_refl _))
    clear K b1 C0 B0
    go_wp2_with fail
    exact bodyPost_ret (v := .tuple #[.int .i64 0, .int .i64 2]) (by simp [results, Tryz.results10, go_sem]) rfl ⟨rfl, B1.out⟩

set_option maxHeartbeats 1000000 in
set_option maxRecDepth 100000 in
theorem fits_any (p l f n : Int) (w : World) : Calls Tryz.prog 69 #[.agg (shC p l f), .int .i64 n] w fun e w' => e = .returned (.bool (decide (fitsN p l f n))) ∧ Below w.heap.size w w' := by
  have K := need_any p l f (w.alloc (.cells #[.int .i64 p, .int .i64 l, .int .i64 f] 23))
  have B0 := alloc_below w (.cells #[.int .i64 p, .int .i64 l, .int .i64 f] 23)
  unfold needN mayE at K
  unfold shC at K ⊢
  by_cases h : mayN p l f
  · rw [if_pos h, if_pos h] at K
    have K := hide K
    by_cases q : 5 + 2 * p + l = n
    · rw [decide_eq_true (show fitsN p l f n from ⟨h, q⟩), ← q]
      clear h q
      go_enter Tryz.func69, Tryz.ntmps69
      go_wp2_with fail
      refine K.out.mono ?_
      rintro e w1 ⟨rfl, b1⟩
      have B1 := hide (bnext B0 b1 (Nat.le_refl _))
      clear K b1 B0
      go_wp2_with fail
      go_ret
      exact ⟨rfl, B1.out⟩
    · rw [decide_eq_false (show ¬ fitsN p l f n from fun r => q r.2)]
      have q' : (5 + 2 * p + l == n) = false := by simpa using q
      clear h q
      generalize 5 + 2 * p + l = m at *
      go_enter Tryz.func69, Tryz.ntmps69
      go_wp2_with fail
      refine K.out.mono ?_
      rintro e w1 ⟨rfl, b1⟩
      have B1 := hide (bnext B0 b1 (Nat.le_refl _))
      clear K b1 B0
      go_wp2_with fail
      go_ret
      exact ⟨rfl, B1.out⟩
  · rw [if_neg h, if_neg h] at K
    rw [decide_eq_false (show ¬ fitsN p l f n from fun r => h r.1)]
    have K := hide K
    clear h
    go_enter Tryz.func69, Tryz.ntmps69
    go_wp2_with fail
    refine K.out.mono ?_
    rintro e w1 ⟨rfl, b1⟩
    have B1 := hide (bnext B0 b1 (Nat.le_refl _))
    clear K b1 B0
    go_wp2_with fail
    go_ret
    exact ⟨rfl, B1.out⟩

set_option maxHeartbeats 1000000 in
set_option maxRecDepth 100000 in
theorem mayStand_any (s : Slot) (i n : Nat) (w : World) (hf : s.Fit) : Calls Tryz.prog 88 #[.agg (slotC s), .int .i64 (i : Int), .int .i64 (n : Int)] w fun e w' => e = .returned (.bool (decide (s.stands i n))) ∧ Below w.heap.size w w' := by
  obtain ⟨w1, hw1⟩ : ∃ w1, w1 = w.alloc (.cells (slotC s) 82) := ⟨_, rfl⟩
  have S1 : SlotAt w1 w.heap.size s := by rw [hw1]; exact SlotAt.new w s
  have b1 : Below w.heap.size w w1 := by rw [hw1]; exact alloc_below _ _
  have K1 := hide (home_any s w1 hf.stamp)
  have K2 := fun w' => hide (fits_any (s.pages : Int) (s.log : Int) (s.frames : Int) (n : Int) w')
  have HW := hide hw1
  clear hw1
  obtain ⟨d0, d1, d2, d3, d4⟩ := (⟨S1.at0, S1.at1, S1.at2, S1.at3, S1.at4⟩ : _ ∧ _ ∧ _ ∧ _ ∧ _)
  obtain ⟨st, pg, lg, fr, pt⟩ := s
  simp only at *
  unfold slotC at K1
  unfold slotC at HW
  unfold shC at K2
  simp only at K1 HW K2
  have f1 := hf.stamp
  have f5 := hf.point
  simp only at f1 f5
  unfold slotC
  simp only
  have S1 := hide S1
  have b1H := hide b1
  by_cases h1 : 1 ≤ st
  · have g1 : (1 : Int) ≤ (st : Int) := by omega
    by_cases h2 : st ≤ 4611686018427387904
    · have g2 : (st : Int) ≤ 4611686018427387904 := by omega
      by_cases h3 : st % 2 = i
      · obtain ⟨m, hm⟩ : ∃ m, m = st % 2 := ⟨_, rfl⟩
        rw [← hm] at h3 K1
        subst h3
        have HM := hide hm
        clear hm
        by_cases h4 : fitsN (pg : Int) (lg : Int) (fr : Int) (n : Int)
        · have K2 := fun w' => (K2 w').out
          rw [decide_eq_true h4] at K2
          by_cases h5 : pt ≤ 2147483647
          · have g5 : (pt : Int) ≤ 2147483647 := by omega
            rw [decide_eq_true (show Slot.stands ⟨st, pg, lg, fr, pt⟩ m n from ⟨h1, h2, HM.out.symm, h4, h5⟩)]
            clear h1 h2 h4 h5
            go_enter Tryz.func88, Tryz.ntmps88
            go_wp2_with fail
            rw [← HW.out]
            refine K1.out.mono ?_
            rintro e w2 ⟨rfl, b2⟩
            have S2 := hide (S1.out.below b2)
            have B2 := hide (bnext b1 b2 (Nat.le_refl _))
            have d1' := S2.out.at1
            have d2' := S2.out.at2
            have d3' := S2.out.at3
            have d4' := S2.out.at4
            clear d0 d1 d2 d3 d4 K1
            go_wp2_with fail
            refine (K2 _).mono ?_
            rintro e w3 ⟨rfl, b3⟩
            have d4'' := (S2.out.below b3).at4
            have B3 := hide (bnext B2.out b3 (Nat.le_refl _))
            clear d1' d2' d3' d4' B2 S2 K2 b2 b3
            go_wp2_with fail
            go_ret
            exact ⟨rfl, B3.out⟩
          · have g5 : decide ((pt : Int) ≤ 2147483647) = false := decide_eq_false (by omega)
            rw [decide_eq_false (show ¬ Slot.stands ⟨st, pg, lg, fr, pt⟩ m n from fun q => h5 q.2.2.2.2)]
            clear h1 h2 h4 h5
            go_enter Tryz.func88, Tryz.ntmps88
            go_wp2_with fail
            rw [← HW.out]
            refine K1.out.mono ?_
            rintro e w2 ⟨rfl, b2⟩
            have S2 := hide (S1.out.below b2)
            have B2 := hide (bnext b1 b2 (Nat.le_refl _))
            have d1' := S2.out.at1
            have d2' := S2.out.at2
            have d3' := S2.out.at3
            have d4' := S2.out.at4
            clear d0 d1 d2 d3 d4 K1
            go_wp2_with fail
            refine (K2 _).mono ?_
            rintro e w3 ⟨rfl, b3⟩
            have d4'' := (S2.out.below b3).at4
            have B3 := hide (bnext B2.out b3 (Nat.le_refl _))
            clear d1' d2' d3' d4' B2 S2 K2 b2 b3
            go_wp2_with fail
            go_ret
            exact ⟨rfl, B3.out⟩
        · have K2 := fun w' => (K2 w').out
          rw [decide_eq_false h4] at K2
          rw [decide_eq_false (show ¬ Slot.stands ⟨st, pg, lg, fr, pt⟩ m n from fun q => h4 q.2.2.2.1)]
          clear h1 h2 h4
          go_enter Tryz.func88, Tryz.ntmps88
          go_wp2_with fail
          rw [← HW.out]
          refine K1.out.mono ?_
          rintro e w2 ⟨rfl, b2⟩
          have S2 := hide (S1.out.below b2)
          have B2 := hide (bnext b1 b2 (Nat.le_refl _))
          have d1' := S2.out.at1
          have d2' := S2.out.at2
          have d3' := S2.out.at3
          have d4' := S2.out.at4
          clear d0 d1 d2 d3 d4 K1
          go_wp2_with fail
          refine (K2 _).mono ?_
          rintro e w3 ⟨rfl, b3⟩
          have d4'' := (S2.out.below b3).at4
          have B3 := hide (bnext B2.out b3 (Nat.le_refl _))
          clear d1' d2' d3' d4' B2 S2 K2 b2 b3
          go_wp2_with fail
          go_ret
          exact ⟨rfl, B3.out⟩
      · have h3' : ((st % 2 : Nat) : Int) ≠ (i : Int) := by omega
        obtain ⟨m, hm⟩ : ∃ m, m = st % 2 := ⟨_, rfl⟩
        rw [← hm] at h3' K1
        have g3 : ((m : Int) == (i : Int)) = false := by simpa using h3'
        clear h3'
        rw [decide_eq_false (show ¬ Slot.stands ⟨st, pg, lg, fr, pt⟩ i n from fun q => h3 q.2.2.1)]
        clear h1 h2 h3 hm
        go_enter Tryz.func88, Tryz.ntmps88
        go_wp2_with fail
        rw [← HW.out]
        refine K1.out.mono ?_
        rintro e w2 ⟨rfl, b2⟩
        have S2 := hide (S1.out.below b2)
        have B2 := hide (bnext b1 b2 (Nat.le_refl _))
        have d1' := S2.out.at1
        have d2' := S2.out.at2
        have d3' := S2.out.at3
        have d4' := S2.out.at4
        clear d0 d1 d2 d3 d4 K1
        go_wp2_with fail
        go_ret
        exact ⟨rfl, B2.out⟩
    · have g2 : ¬ (st : Int) ≤ 4611686018427387904 := by omega
      rw [decide_eq_false (show ¬ Slot.stands ⟨st, pg, lg, fr, pt⟩ i n from fun q => h2 q.2.1)]
      clear h1 h2
      go_enter Tryz.func88, Tryz.ntmps88
      go_wp2_with fail
      go_ret
      exact ⟨rfl, by rw [← HW.out]; exact b1⟩
  · have g1 : ¬ (1 : Int) ≤ (st : Int) := by omega
    rw [decide_eq_false (show ¬ Slot.stands ⟨st, pg, lg, fr, pt⟩ i n from fun q => h1 q.1)]
    clear h1
    go_enter Tryz.func88, Tryz.ntmps88
    go_wp2_with fail
    go_ret
    exact ⟨rfl, by rw [← HW.out]; exact b1⟩
end Go.Proofs.YtapjbgkmcplpbaaGreat
