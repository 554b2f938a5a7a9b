import Derived.Test.YtapjbgkmcplpbaaGreatRd
namespace Go.Proofs.YtapjbgkmcplpbaaGreat
open Go.RowKit Go.QK

def mk (g : Dev) : Nat → Slot
  | 0 => Slot.none
  | k + 1 => if (mk g k).stamp < (g.slot k).stamp then g.slot k else mk g k
theorem mk_one (g : Dev) : mk g 1 = g.slot 0 := by
  show (if 0 < (g.slot 0).stamp then g.slot 0 else Slot.none) = _
  rcases g.slot_or 0 with h | ⟨h, _⟩
  · rw [h]; rfl
  · rw [if_pos (by have := h.1; omega)]
theorem mk_two (g : Dev) : mk g 2 = g.master := by
  show (if (mk g 1).stamp < (g.slot 1).stamp then g.slot 1 else mk g 1) = _
  rw [mk_one]
  rfl

def slotE (m : Slot) : Bool := m.stamp == 0 && m.pages == 0 && m.log == 0 && m.frames == 0 && m.point == 0
set_option maxRecDepth 100000 in
theorem eql_slot (m : Slot) (w : World) : (binOp .eql 82 (.agg #[.int .u64 (m.stamp : Int), .int .i64 (m.pages : Int), .int .i64 (m.log : Int), .int .i64 (m.frames : Int), .int .i64 (m.point : Int)]) (.agg #[.int .u64 0, .int .i64 0, .int .i64 0, .int .i64 0, .int .i64 0])).run Tryz.prog w = .ok (.bool (slotE m)) w := by
  unfold slotE
  go_simp
  by_cases h0 : m.stamp = 0 <;> by_cases h1 : m.pages = 0 <;> by_cases h2 : m.log = 0 <;> by_cases h3 : m.frames = 0 <;> by_cases h4 : m.point = 0 <;> simp [h0, h1, h2, h3, h4]
theorem slotE_none : slotE Slot.none = true := rfl
theorem slotE_some {m : Slot} (h : m.stamp ≠ 0) : slotE m = false := by simp [slotE, h]

set_option maxHeartbeats 1000000 in
set_option maxRecDepth 100000 in
theorem young_nil (w : World) : Calls Tryz.prog 48 #[.pointer none] w fun e w' => e = .returned (.tuple #[.agg (slotC Slot.none), .int .i64 3]) ∧ Below w.heap.size w w' := by
  have B := alloc_below w (.cells #[.int .u64 0, .int .i64 0, .int .i64 0, .int .i64 0, .int .i64 0] 82)
  go_enter Tryz.func48, Tryz.ntmps48
  go_wp2_with fail
  refine bodyPost_ret (v := .tuple #[.agg (slotC Slot.none), .int .i64 3]) ?_ rfl ⟨rfl, ?_⟩
  · simp [results, Tryz.results48, go_sem, slotC, Slot.none]
  · exact B

set_option maxHeartbeats 2000000 in
set_option maxRecDepth 100000 in
theorem young_any {w : World} {S : Nat → Prop} {d : Nat} {g : Dev} (h : PDev w S d g) (hpl : g.pend.length ≤ 1000000) :
    Calls Tryz.prog 48 #[.pointer (some ⟨d, 0, none⟩)] w fun e w' => e = .returned (.tuple #[.agg (slotC g.openS), .int .i64 ((g.openE : Nat) : Int)]) ∧ Below w.heap.size w w' := by
  obtain ⟨w1, hw1⟩ : ∃ w1, w1 = w.alloc (.cells #[.int .u64 0, .int .i64 0, .int .i64 0, .int .i64 0, .int .i64 0] 82) := ⟨_, rfl⟩
  have R1 : SlotAt w1 w.heap.size Slot.none := by rw [hw1]; exact SlotAt.new w Slot.none
  have b1 : Below w.heap.size w w1 := by rw [hw1]; exact alloc_below _ _
  have z1 : w1.heap.size = w.heap.size + 1 := by rw [hw1]; simp
  have P1 := h.below b1
  have KD := hide (down_any P1)
  have HW := hide hw1
  clear hw1
  unfold Dev.openS Dev.openE
  by_cases hd : g.down = true
  · rw [if_pos hd, if_pos hd]
    rw [hd] at KD
    have q0 := R1.at0
    have q1 := R1.at1
    have q2 := R1.at2
    have q3 := R1.at3
    have q4 := R1.at4
    have f0 := R1.fr 0 (by omega)
    have f1 := R1.fr 1 (by omega)
    have f2 := R1.fr 2 (by omega)
    have f3 := R1.fr 3 (by omega)
    have f4 := R1.fr 4 (by omega)
    obtain ⟨w8, hw8⟩ : ∃ w8, w8 = put5 w1 w.heap.size Slot.none := ⟨_, rfl⟩
    have E8 : SlotAt w8 w.heap.size Slot.none := by rw [hw8]; exact R1.put5 Slot.none
    have B8 : Below w.heap.size w w8 := by rw [hw8]; exact b1.trans ((put5_keep w1 w.heap.size Slot.none).below (by omega) (fun k hk => by omega))
    have HW8 := hide hw8
    rw [put0_eq] at HW8
    unfold put0 at HW8
    clear hw8 R1 b1 P1 h hd
    go_enter Tryz.func48, Tryz.ntmps48
    go_wp2_with fail
    rw [← HW.out]
    refine KD.out.mono ?_
    rintro e w' ⟨rfl, hw⟩
    obtain rfl : w1 = w' := hw.symm
    go_wp2_with fail
    rw [← HW8.out]
    have y0 := E8.at0
    have y1 := E8.at1
    have y2 := E8.at2
    have y3 := E8.at3
    have y4 := E8.at4
    exact bodyPost_ret (v := .tuple #[.agg (slotC Slot.none), .int .i64 40]) (by simp [results, Tryz.results48, go_sem, y0, y1, y2, y3, y4, slotC]) rfl ⟨rfl, B8⟩
  · rw [if_neg hd, if_neg hd]
    have hd' : g.down = false := by simpa using hd
    rw [hd'] at KD
    obtain ⟨w2, hw2⟩ : ∃ w2, w2 = w1.alloc (.cells #[.int .u64 0, .int .i64 0, .int .i64 0, .int .i64 0, .int .i64 0] 82) := ⟨_, rfl⟩
    have M2 : SlotAt w2 w1.heap.size (mk g 0) := by rw [hw2]; exact SlotAt.new w1 Slot.none
    have b2 : Below w1.heap.size w1 w2 := by rw [hw2]; exact alloc_below _ _
    have R2 := R1.below b2
    have P2 := P1.below b2
    have B2 := bnext b1 b2 (Nat.le_refl _)
    have z2 : w2.heap.size = w.heap.size + 2 := by rw [hw2]; simp; omega
    have HW2 := hide hw2
    have hle := hide (h.lt)
    clear hw2 R1 b1 P1 h hd b2
    obtain ⟨ms, hms⟩ : ∃ ms, ms = g.master := ⟨_, rfl⟩
    have HMS := hide hms
    rw [← hms]
    have hz := g.master_zero_iff
    rw [← hms] at hz
    have HZ := hide hz
    obtain ⟨ee, hee⟩ : ∃ ee, ee = (if ms.stamp = 0 then 50 else 0) := ⟨_, rfl⟩
    rw [← hee]
    have HEE := hide hee
    clear hms hz hee
    go_enter Tryz.func48, Tryz.ntmps48
    go_wp2_with fail
    rw [← HW.out]
    refine KD.out.mono ?_
    rintro e w' ⟨rfl, hw⟩
    obtain rfl : w1 = w' := hw.symm
    clear KD HW
    have N1 := hide z1
    clear z1
    go_wp2_with fail
    rw [← HW2.out]
    clear HW2
    go_loopw [13] (fun i wr => ∃ k : Nat, k ≤ 2 ∧ i = .int .i64 (k : Int) ∧ SlotAt wr w1.heap.size (mk g k) ∧ SlotAt wr w.heap.size Slot.none ∧ PDev wr S d g ∧ Below w.heap.size w wr ∧ w2.heap.size ≤ wr.heap.size) (fun i _ => 2 - (intOf i).toNat)
    case atStart => exact ⟨0, by omega, rfl, M2, R2, P2, B2, Nat.le_refl _⟩
    case round =>
      obtain ⟨k, hk, rfl, hM, hR, hP, hB, hz⟩ := hrel
      have z1 := N1.out
      by_cases hlt : k < 2
      · have K := hide (slot_any hP hd' k hpl)
        have hM := hide hM
        have hR := hide hR
        have hP := hide hP
        have hB := hide hB
        have MK := hide (show mk g (k + 1) = if (mk g k).stamp < (g.slot k).stamp then g.slot k else mk g k from rfl)
        obtain ⟨s, hs⟩ : ∃ s, s = g.slot k := ⟨_, rfl⟩
        rw [← hs] at K MK
        obtain ⟨m, hm⟩ : ∃ m, m = mk g k := ⟨_, rfl⟩
        rw [← hm] at hM MK
        clear hs hm M2 R2 P2 B2 z1
        unfold slotC at K
        go_wp2_with fail
        refine K.out.mono ?_
        rintro e w3 ⟨rfl, b3⟩
        obtain ⟨w4, hw4⟩ : ∃ w4, w4 = w3.alloc (.cells (slotC s) 82) := ⟨_, rfl⟩
        have S4 : SlotAt w4 w3.heap.size s := by rw [hw4]; exact SlotAt.new w3 s
        have b4 : Below w3.heap.size w3 w4 := by rw [hw4]; exact alloc_below _ _
        have bb : Below wr.heap.size wr w4 := bnext b3 b4 (Nat.le_refl _)
        have M4 := hM.out.below bb
        have R4 := hide (hR.out.below bb)
        have P4 := hide (hP.out.below bb)
        have B4 := hide (bnext hB.out bb (Nat.le_refl _))
        have z4 := Nat.le_trans hz bb.size
        have z3 := Nat.le_trans hz b3.size
        have q0 := M4.at0
        have q1 := M4.at1
        have q2 := M4.at2
        have q3 := M4.at3
        have q4 := M4.at4
        have f0 := M4.fr 0 (by omega)
        have f1 := M4.fr 1 (by omega)
        have f2 := M4.fr 2 (by omega)
        have f3 := M4.fr 3 (by omega)
        have f4 := M4.fr 4 (by omega)
        have t0 := S4.at0
        have t1 := S4.at1
        have t2 := S4.at2
        have t3 := S4.at3
        have t4 := S4.at4
        have M4 := hide M4
        have HW4 := hide hw4
        unfold slotC at HW4
        clear hw4 b3 b4 hM hR hP hB K S4
        go_upto_region 10 with fail
        rw [← HW4.out]
        clear HW4
        by_cases hc : m.stamp < s.stamp
        · have hc' : (m.stamp : Int) < (s.stamp : Int) := by omega
          obtain ⟨w5, hw5⟩ : ∃ w5, w5 = put5 w4 w1.heap.size s := ⟨_, rfl⟩
          have k5 : Keep (fun b => b = w1.heap.size) w4 w5 := by rw [hw5]; exact put5_keep _ _ _
          have M5 : SlotAt w5 w1.heap.size s := by rw [hw5]; exact M4.out.put5 s
          have z1 := N1.out
          have R5 := hide (R4.out.keep k5 (by omega))
          have P5 := hide (P4.out.keep k5 (by
            intro b hb hs
            have := hle.out b hs
            omega))
          have B5 := hide (B4.out.trans (k5.below (by have := z4; omega) (fun k hk => by omega)))
          have z5 := Nat.le_trans z4 k5.size
          have E : mk g (k + 1) = s := by rw [MK.out, if_pos hc]
          have EE := hide E
          have M5 := hide M5
          have HW5 := hide hw5
          unfold put5 at HW5
          clear hw5 k5 E R4 P4 B4 M4 MK z1 hc
          go_wp2_with fail
          rw [← HW5.out]
          go_roundw
          case rel => exact ⟨k + 1, by omega, by go_num, by rw [EE.out]; exact M5.out, R5.out, P5.out, B5.out, z5⟩
          case measure => simp [intOf]; omega
        · have hc' : ¬ (m.stamp : Int) < (s.stamp : Int) := by omega
          have E : mk g (k + 1) = m := by rw [MK.out, if_neg hc]
          have EE := hide E
          clear E MK hc
          go_wp2_with fail
          go_roundw
          case rel => exact ⟨k + 1, by omega, by go_num, by rw [EE.out]; exact M4.out, R4.out, P4.out, B4.out, z4⟩
          case measure => simp [intOf]; omega
      · obtain rfl : k = 2 := by omega
        rw [mk_two, ← HMS.out] at hM
        have q0 := hM.at0
        have q1 := hM.at1
        have q2 := hM.at2
        have q3 := hM.at3
        have q4 := hM.at4
        have r0 := hR.at0
        have r1 := hR.at1
        have r2 := hR.at2
        have r3 := hR.at3
        have r4 := hR.at4
        have f0 := hR.fr 0 (by omega)
        have f1 := hR.fr 1 (by omega)
        have f2 := hR.fr 2 (by omega)
        have f3 := hR.fr 3 (by omega)
        have f4 := hR.fr 4 (by omega)
        have EQ := fun w => eql_slot ms w
        by_cases hm : ms.stamp = 0
        · have hn := HZ.out.1 hm
          subst hn
          rw [slotE_none] at EQ
          obtain ⟨w8, hw8⟩ : ∃ w8, w8 = put5 wr w.heap.size Slot.none := ⟨_, rfl⟩
          have E8 : SlotAt w8 w.heap.size Slot.none := by rw [hw8]; exact hR.put5 Slot.none
          have B8 : Below w.heap.size w w8 := by rw [hw8]; exact hB.trans ((put5_keep wr w.heap.size Slot.none).below (by omega) (fun k hk => by omega))
          have HW8 := hide hw8
          rw [put0_eq] at HW8
          unfold put0 at HW8
          obtain rfl : 50 = ee := by rw [HEE.out, if_pos (show Slot.none.stamp = 0 from rfl)]
          simp only [Slot.none] at q0 q1 q2 q3 q4 EQ
          clear hw8 hR hB hP hM z1
          go_wp2_with fail
          rw [← HW8.out]
          have y0 := E8.at0
          have y1 := E8.at1
          have y2 := E8.at2
          have y3 := E8.at3
          have y4 := E8.at4
          exact bodyPost_ret (v := .tuple #[.agg (slotC Slot.none), .int .i64 50]) (by simp [results, Tryz.results48, go_sem, y0, y1, y2, y3, y4, slotC]) rfl ⟨rfl, B8⟩
        · rw [slotE_some hm] at EQ
          obtain rfl : 0 = ee := by rw [HEE.out, if_neg hm]
          obtain ⟨w8, hw8⟩ : ∃ w8, w8 = put5 wr w.heap.size ms := ⟨_, rfl⟩
          have E8 : SlotAt w8 w.heap.size ms := by rw [hw8]; exact hR.put5 ms
          have B8 : Below w.heap.size w w8 := by rw [hw8]; exact hB.trans ((put5_keep wr w.heap.size ms).below (by omega) (fun k hk => by omega))
          have HW8 := hide hw8
          unfold put5 at HW8
          clear hw8 hR hB hP hM hm z1
          go_wp2_with fail
          rw [← HW8.out]
          have y0 := E8.at0
          have y1 := E8.at1
          have y2 := E8.at2
          have y3 := E8.at3
          have y4 := E8.at4
          exact bodyPost_ret (v := .tuple #[.agg (slotC ms), .int .i64 0]) (by simp [results, Tryz.results48, go_sem, y0, y1, y2, y3, y4, slotC]) rfl ⟨rfl, B8⟩
end Go.Proofs.YtapjbgkmcplpbaaGreat
