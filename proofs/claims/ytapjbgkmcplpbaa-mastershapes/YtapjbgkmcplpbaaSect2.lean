import Derived.Test.YtapjbgkmcplpbaaSect
namespace Go.Proofs.Ytapjbgkmcplpbaa
open Go.RowKit Go.QK

def slotC (s : Slot) : Array Value := #[.int .u64 (s.stamp : Int), .int .i64 (s.pages : Int), .int .i64 (s.log : Int), .int .i64 (s.frames : Int), .int .i64 (s.point : Int)]
theorem wrap_fit (n : Nat) (h : n < 18446744073709551616) : IntKind.u64.wrap (n : Int) = (n : Int) := by rw [IntKind.wrap_u64]; omega

/-- A slot lies at block b. -/
def SlotAt (w : World) (b : Nat) (s : Slot) : Prop := Cells w b (slotC s).toList
theorem SlotAt.at0 {w : World} {b : Nat} {s : Slot} (h : SlotAt w b s) : w.cell? ⟨b, 0, none⟩ = some (.int .u64 (s.stamp : Int)) := (h.2 0 (by simp [slotC])).1
theorem SlotAt.at1 {w : World} {b : Nat} {s : Slot} (h : SlotAt w b s) : w.cell? ⟨b, 1, none⟩ = some (.int .i64 (s.pages : Int)) := (h.2 1 (by simp [slotC])).1
theorem SlotAt.at2 {w : World} {b : Nat} {s : Slot} (h : SlotAt w b s) : w.cell? ⟨b, 2, none⟩ = some (.int .i64 (s.log : Int)) := (h.2 2 (by simp [slotC])).1
theorem SlotAt.at3 {w : World} {b : Nat} {s : Slot} (h : SlotAt w b s) : w.cell? ⟨b, 3, none⟩ = some (.int .i64 (s.frames : Int)) := (h.2 3 (by simp [slotC])).1
theorem SlotAt.at4 {w : World} {b : Nat} {s : Slot} (h : SlotAt w b s) : w.cell? ⟨b, 4, none⟩ = some (.int .i64 (s.point : Int)) := (h.2 4 (by simp [slotC])).1
theorem SlotAt.fr {w : World} {b : Nat} {s : Slot} (h : SlotAt w b s) (j : Nat) (hj : j < 5) : w.frozen? ⟨b, j, none⟩ = false := (h.2 j (by simpa [slotC] using hj)).2
theorem SlotAt.new (w : World) (s : Slot) : SlotAt (w.alloc (.cells (slotC s) 63)) w.heap.size s := by
  exact Cells.new w (slotC s) 63
theorem SlotAt.below {w w' : World} {b : Nat} {s : Slot} (h : SlotAt w b s) (hb : Below w.heap.size w w') : SlotAt w' b s := Cells.keep h (Keep.of_below (S := fun _ => False) hb) (fun q => q)
theorem SlotAt.keep {w w' : World} {b : Nat} {s : Slot} {S : Nat → Prop} (h : SlotAt w b s) (hb : Keep S w w') (hn : ¬ S b) : SlotAt w' b s := Cells.keep h hb hn
theorem SlotAt.lt {w : World} {b : Nat} {s : Slot} (h : SlotAt w b s) : b < w.heap.size := h.1

set_option maxHeartbeats 1000000 in
set_option maxRecDepth 100000 in
theorem sector_any (s : Slot) (w : World) (hf : s.Fit) :
    Calls Try.prog 57 #[.agg (slotC s)] w fun e w' => e = .returned (.agg (bytesV (slotB s))) ∧ Below w.heap.size w w' := by
  obtain ⟨f1, f2, f3, f4, f5⟩ := hf
  have Z := zero_run
  have hz0 : (bytesV zerosB)[0]? = some (.int .u8 0) := by kernel_rfl
  obtain ⟨w3, hw3⟩ : ∃ w3, w3 = (((w.alloc (.cells (slotC s) 63)).alloc (.cells (bytesV zerosB) 91)).alloc (.cells ((bytesV zerosB).setIfInBounds 0 (.int .u8 77)) 91)) := ⟨_, rfl⟩
  have z3 : w3.heap.size = w.heap.size + 3 := by rw [hw3]; simp
  have b3 : Below w.heap.size w w3 := by rw [hw3]; exact (((Below.refl _ w).alloc (Nat.le_refl _) _).alloc (by simp) _).alloc (by simp; omega) _
  have s3 : SlotAt w3 w.heap.size s := by rw [hw3]; exact ((SlotAt.new w s).below (alloc_below _ _)).below (alloc_below _ _)
  have a3 : Arr w3 91 (w.heap.size + 1) zerosB := by
    have := (Arr.new (w.alloc (.cells (slotC s) 63)) 91 zerosB).below (alloc_below _ (.cells ((bytesV zerosB).setIfInBounds 0 (.int .u8 77)) 91))
    rw [World.size_alloc] at this
    rw [hw3]; exact this
  have d3 : Arr w3 91 (w.heap.size + 1 + 1) (zerosB.set 0 77) := by
    have e : bytesV (zerosB.set 0 77) = (bytesV zerosB).setIfInBounds 0 (.int .u8 77) := by
      simp [bytesV, ints_set', List.map_set]
    have := Arr.new ((w.alloc (.cells (slotC s) 63)).alloc (.cells (bytesV zerosB) 91)) 91 (zerosB.set 0 77)
    rw [e, World.size_alloc, World.size_alloc] at this
    rw [hw3]; exact this
  have HW3 := hide hw3
  clear hw3
  have L0 : (zerosB.set 0 77).length = 512 := by kernel_rfl
  have K1 := hide (set_any (w.heap.size + 1 + 1) 1 8 s.stamp (zerosB.set 0 77) w3 d3 L0 (by omega) (by omega) (by omega) f1)
  have S3 := hide s3
  have A3 := hide a3
  clear s3 a3 d3
  unfold slotC at HW3
  unfold slotC
  go_enter Try.func57, Try.ntmps57
  go_wp2_with fail
  rw [← HW3.out]
  refine K1.out.mono ?_
  rintro e w4 ⟨⟨v4, rfl⟩, d4, k4⟩
  have s4 := S3.out.keep k4 (by omega)
  have a4 := hide (A3.out.keep k4 (by omega))
  have b4 : Below w.heap.size w w4 := b3.trans (k4.below (by omega) (fun k hk => by omega))
  have z4 := k4.size
  rw [z3] at z4
  have l4 : (wrote (zerosB.set 0 77) 1 s.stamp 8).length = 512 := by rw [wrote_length]; exact L0
  have K2 := hide (set_any (w.heap.size + 1 + 1) 9 1 s.pages _ w4 d4 l4 (by omega) (by omega) (by omega) f2)
  have c1 := s4.at1
  have e1 := wrap_fit s.pages (by omega)
  have S4 := hide s4
  clear s4 K1 d4 k4 A3 S3 HW3 b3 z3
  go_wp2_with fail
  refine K2.out.mono ?_
  rintro e w5 ⟨⟨v5, rfl⟩, d5, k5⟩
  have s5 := S4.out.keep k5 (by omega)
  have a5 := hide (a4.out.keep k5 (by omega))
  have b5 : Below w.heap.size w w5 := b4.trans (k5.below (by omega) (fun k hk => by omega))
  have z5 := Nat.le_trans z4 k5.size
  have l5 : (wrote (wrote (zerosB.set 0 77) 1 s.stamp 8) 9 s.pages 1).length = 512 := by rw [wrote_length]; exact l4
  have K3 := hide (set_any (w.heap.size + 1 + 1) 10 2 s.log _ w5 d5 l5 (by omega) (by omega) (by omega) f3)
  have c2 := s5.at2
  have e2 := wrap_fit s.log (by omega)
  have S5 := hide s5
  clear s5 K2 d5 k5 a4 S4 b4 z4 c1 e1
  go_wp2_with fail
  refine K3.out.mono ?_
  rintro e w6 ⟨⟨v6, rfl⟩, d6, k6⟩
  have s6 := S5.out.keep k6 (by omega)
  have a6 := hide (a5.out.keep k6 (by omega))
  have b6 : Below w.heap.size w w6 := b5.trans (k6.below (by omega) (fun k hk => by omega))
  have z6 := Nat.le_trans z5 k6.size
  have l6 : (wrote (wrote (wrote (zerosB.set 0 77) 1 s.stamp 8) 9 s.pages 1) 10 s.log 2).length = 512 := by rw [wrote_length]; exact l5
  have K4 := hide (set_any (w.heap.size + 1 + 1) 12 1 s.frames _ w6 d6 l6 (by omega) (by omega) (by omega) f4)
  have c3 := s6.at3
  have e3 := wrap_fit s.frames (by omega)
  have S6 := hide s6
  clear s6 K3 d6 k6 a5 S5 b5 z5 c2 e2
  go_wp2_with fail
  refine K4.out.mono ?_
  rintro e w7 ⟨⟨v7, rfl⟩, d7, k7⟩
  have s7 := S6.out.keep k7 (by omega)
  have a7 := hide (a6.out.keep k7 (by omega))
  have b7 : Below w.heap.size w w7 := b6.trans (k7.below (by omega) (fun k hk => by omega))
  have z7 := Nat.le_trans z6 k7.size
  have l7 : (wrote (wrote (wrote (wrote (zerosB.set 0 77) 1 s.stamp 8) 9 s.pages 1) 10 s.log 2) 12 s.frames 1).length = 512 := by rw [wrote_length]; exact l6
  have K5 := hide (set_any (w.heap.size + 1 + 1) 13 4 s.point _ w7 d7 l7 (by omega) (by omega) (by omega) f5)
  have c4 := s7.at4
  have e4 := wrap_fit s.point (by omega)
  clear s7 K4 d7 k7 a6 S6 b6 z6 c3 e3
  go_wp2_with fail
  refine K5.out.mono ?_
  rintro e w8 ⟨⟨v8, rfl⟩, d8, k8⟩
  have a8 : Arr w8 91 (w.heap.size + 1) zerosB := a7.out.keep k8 (by omega)
  have b8 : Below w.heap.size w w8 := b7.trans (k8.below (by omega) (fun k hk => by omega))
  have z8 := Nat.le_trans z7 k8.size
  have d8' : Arr w8 91 (w.heap.size + 1 + 1) (laid5 s) := d8
  have y1 := d8'.cell 1 (by rw [laid5_length]; omega)
  have y2 := d8'.cell 511 (by rw [laid5_length]; omega)
  have y3 := d8'.frozen 511
  rw [laid5_one] at y1
  obtain ⟨m, hm⟩ : ∃ m, m = s.stamp % 256 := ⟨_, rfl⟩
  generalize (((laid5 s).getD 511 0 : Nat) : Int) = old at y2
  have D9 := d8'.set 511 (s.stamp % 256)
  rw [laid5_set] at D9
  rw [← hm] at D9 y1
  clear hm
  have A9 := a8.keep (Keep.setCell (Keep.refl (fun k => k = w.heap.size + 1 + 1) w8) (g := w.heap.size + 1 + 1) (j := 511) (fun _ => rfl) (.int .u8 (m : Int))) (by omega)
  have B9 : Below w.heap.size w (w8.setCell ⟨w.heap.size + 1 + 1, 511, none⟩ (.int .u8 (m : Int))) := b8.trans (((Keep.refl (fun k => k = w.heap.size + 1 + 1) w8).setCell (g := w.heap.size + 1 + 1) (j := 511) (fun _ => rfl) (.int .u8 (m : Int))).below (by omega) (fun k hk => by omega))
  have HD := hide D9
  have HB := hide B9
  obtain ⟨w9, X9, h9, k9⟩ := cells_arr (M := slotB s) A9 (by kernel_rfl) (slotB_length s)
  clear K5 d8 d8' k8 a7 b7 z7 c4 e4 l4 l5 l6 l7 L0 D9 A9 B9 a8
  go_wp2_with fail
  refine wp_load_arr (.tmp 3) (by rfl) (w.heap.size + 1 + 1) (by rfl) (slotB s) HD.out (slotB_length s) ?_
  have L9 := load_arr h9 (slotB_length s)
  have B9 := hide (HB.out.trans (k9.below (by simp; omega) (fun k hk => by omega)))
  clear HB HD k9 h9
  go_wp2_with fail
  refine bodyPost_ret (v := .agg (bytesV (slotB s))) ?_ rfl ⟨rfl, B9.out⟩
  simp only [Instr.loadAt, Instr.sureAddr, Sem.run_bind, Sem.run_pure, Result.andThen] at L9
  simp [results, Try.results57, asAddr, L9]
end Go.Proofs.Ytapjbgkmcplpbaa
