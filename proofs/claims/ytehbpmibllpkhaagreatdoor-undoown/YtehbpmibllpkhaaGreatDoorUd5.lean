import Derived.Test.YtehbpmibllpkhaaGreatDoorUd4
set_option linter.all false
namespace Go.Proofs.YtehbpmibllpkhaaGreatDoor
open Go.RowKit Go.QK Go.Maps Go.QM Go.QU
set_option maxRecDepth 100000
set_option maxHeartbeats 8000000 in
theorem read_any (b m : Nat) (L : Prs Hd) (A : Array Value) (r : UR) (w : World) (h : PB w b m L) (hr : RF A r) (i1 : I64 r.id) (i2 : I64 r.delta) (hl : L.length + 1 < 1000000000000) :
    Calls Tryz.prog 16 #[ptr b, .agg A] w fun e w' => e = .returned (.int .i64 ((stepE L r : Nat) : Int)) ∧ (∃ m', PB w' b m' (if stepE L r = 0 then stepL L r else L) ∧ (m' = m ∨ w.heap.size ≤ m')) ∧ Keep (fun z => z = b ∨ z = m) w w' := by
  have hmm := @run_makeMap Tryz.prog
  have hne := h.ne
  obtain ⟨w2, hw2⟩ : ∃ z, z = w.alloc (.cells A 53) := ⟨_, rfl⟩
  obtain ⟨X, hX⟩ : ∃ z, z = w.heap.size := ⟨_, rfl⟩
  have PB2 := hide (show PB w2 b m L by rw [hw2]; exact h.below (alloc_below _ _))
  have RB2 := hide (show RBox w2 X 53 A by rw [hw2, hX]; exact RBox.new _ _ _)
  have K2 := hide (show Below w.heap.size w w2 by rw [hw2]; exact alloc_below _ _)
  have BX := hide (show b < X ∧ m < X by rw [hX]; exact h.lt)
  have KAD := hide (add_any b m L A r w2 PB2.out hr i1 i2 hl)
  have KUN := hide (undo_any b m L A r w2 PB2.out hr i1)
  obtain ⟨k, hk⟩ : ∃ k, k = r.kind := ⟨_, rfl⟩
  have c1 := hr.cell RB2.out hr.c1
  rw [← hk] at c1
  obtain ⟨E, hE⟩ : ∃ E, E = stepE L r := ⟨_, rfl⟩
  obtain ⟨R, hR⟩ : ∃ R, R = stepL L r := ⟨_, rfl⟩
  rw [← hE, ← hR]
  obtain ⟨Z, hZ⟩ : ∃ Z, Z = if E = 0 then R else L := ⟨_, rfl⟩
  rw [← hZ]
  have HZ := hide hZ
  clear hZ
  unfold stepE at hE
  unfold stepL at hR
  rw [← hk] at hE hR
  have HE := hide hE
  have HR := hide hR
  have few := hide h.few
  clear h hk hE hR
  go_enter Tryz.func16, Tryz.ntmps16
  go_upto_region 1 with fail
  rw [← hw2, ← hX]
  clear hw2
  have SX := hide hX
  clear hX
  by_cases k3 : k = 3
  · subst k3
    have e0 := HE.out
    rw [if_pos rfl] at e0
    have e1 := HR.out
    rw [if_pos rfl] at e1
    have E0 := hide e0
    have E1 := hide e1
    clear HE HR e0 e1
    go_wp2_with (first | refine wpList_lb RB2.out hr.sz rfl ?_)
    refine KAD.out.mono ?_
    rintro e w3 ⟨rfl, p3, q3⟩
    go_wp2_with fail
    go_ret
    rw [HZ.out, E0.out, E1.out]
    exact ⟨rfl, ⟨m, p3, .inl rfl⟩, (Keep.of_below K2.out).trans q3 (fun _ _ q => .inr q)⟩
  · by_cases k4 : k = 4
    · subst k4
      have e0 := HE.out
      rw [if_neg (by decide), if_pos rfl] at e0
      have e1 := HR.out
      rw [if_neg (by decide), if_pos rfl] at e1
      have E0 := hide e0
      have E1 := hide e1
      clear HE HR e0 e1
      go_wp2_with (first | refine wpList_lb RB2.out hr.sz rfl ?_)
      refine KUN.out.mono ?_
      rintro e w3 ⟨rfl, p3, q3⟩
      go_wp2_with fail
      go_ret
      rw [HZ.out, E0.out, E1.out]
      exact ⟨rfl, ⟨m, p3, .inl rfl⟩, (Keep.of_below K2.out).trans q3 (fun _ _ q => .inr q)⟩
    · have n3 : (k == 3) = false := by simpa using k3
      have n4 : (k == 4) = false := by simpa using k4
      have e0 := HE.out
      rw [if_neg k3, if_neg k4] at e0
      have e1 := HR.out
      rw [if_neg k3, if_neg k4] at e1
      by_cases k5 : k = 5
      · subst k5
        rw [if_pos rfl] at e1
        have E0 := hide e0
        have E1 := hide e1
        clear HE HR e0 e1
        obtain ⟨j0, f0⟩ := (PB2.out.box.below (alloc_below w2 (.map #[] 0))).get 0 _ rfl
        have hbz : b < w2.heap.size := PB2.out.lt.1
        go_wp2_with fail
        go_ret
        rw [HZ.out, E0.out, E1.out]
        obtain ⟨w4, hw4⟩ : ∃ z, z = w2.setCell ⟨b, 0, none⟩ (.map (some w2.heap.size)) := ⟨_, rfl⟩
        have sz : w2.heap.size = w4.heap.size := by rw [hw4]; simp
        have c2 := PB2.out.box.stored (j := 0) (by simp) (.map (some w2.heap.size))
        rw [← hw4] at c2
        have kk : Keep (fun z => z = b) w2 w4 := by rw [hw4]; exact (Keep.refl (fun z => z = b) _).setCell (g := b) (j := 0) (fun _ => rfl) _
        rw [← hw4]
        have hm := AnyAt.made Tryz.prog 3 w4
        rw [sz] at c2 ⊢
        refine ⟨rfl, ⟨w4.heap.size, ⟨c2.below (alloc_below _ _), hm, Up.nil, (fun p hp => by cases hp), by simp⟩, .inr (by have := K2.out.size; omega)⟩, ?_⟩
        exact ((Keep.of_below (S := fun z => z = b ∨ z = m) K2.out).trans kk (fun _ _ q => .inl q)).alloc _
      · have n5 : (k == 5) = false := by simpa using k5
        rw [if_neg k5] at e1
        have E0 := hide e0
        have E1 := hide e1
        clear HE HR e0 e1
        go_wp2_with fail
        go_ret
        rw [HZ.out, E0.out, E1.out]
        exact ⟨rfl, ⟨m, PB2.out, .inl rfl⟩, Keep.of_below K2.out⟩
end Go.Proofs.YtehbpmibllpkhaaGreatDoor
