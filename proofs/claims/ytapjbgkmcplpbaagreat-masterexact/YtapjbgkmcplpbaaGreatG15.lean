import Derived.Test.YtapjbgkmcplpbaaGreatG14
namespace Go.Proofs.YtapjbgkmcplpbaaGreat
open Go.RowKit Go.QK

/-! A slot's bytes. -/
theorem info91 : (Tryz.prog.info? 108).map (fun i => i.size) = some 512 := by kernel_rfl
theorem zero91 : (Tryz.prog.info? 108).map (fun i => i.zero) = some (some (.agg (bytesV zerosB))) := by kernel_rfl
theorem zero_run (w : World) : (zeroValue 108).run Tryz.prog w = .ok (.agg (bytesV zerosB)) w := by
  have h := zero91
  cases hq : Tryz.prog.info? 108 with
  | none => simp [hq] at h
  | some i =>
    rw [hq] at h
    simp only [Option.map_some, Option.some.injEq] at h
    simp [zeroValue, typeInfo, hq, h]
theorem load_arr {w : World} {g : Nat} {L : List Nat} (h : Arr w 108 g L) (hl : L.length = 512) : (Instr.loadAt 108 (.pointer (some ⟨g, 0, none⟩))).run Tryz.prog w = .ok (.agg (bytesV L)) w := by
  simp only [Instr.loadAt, Instr.sureAddr, Sem.run_bind, Sem.run_pure, Result.andThen]
  exact run_loadVar_row w g 108 108 (bytesV L) (0, 0) _ h Tryz.underlying108 rfl (by rw [bytesV_size, hl]; exact info91)
theorem slice_arr (g : Nat) (w : World) : (Instr.sliceAt 108 (.pointer (some ⟨g, 0, none⟩)) none none none).run Tryz.prog w = .ok (.slice (some ⟨g, 0, none⟩) 512 512) w := by
  go_simp

theorem allOne_bytesV (L : List Nat) : (bytesV L).all (·.oneCell') = true := by
  rw [Array.all_eq_true_iff_forall_mem]
  intro v hv
  simp only [bytesV, List.mem_toArray, List.mem_map] at hv
  obtain ⟨x, _, rfl⟩ := hv
  rfl
theorem store_arr {w : World} {g : Nat} {L M : List Nat} (h : Arr w 108 g L) (hl : L.length = 512) (hm : M.length = 512) : (Instr.storeAt 108 (.pointer (some ⟨g, 0, none⟩)) (.agg (bytesV M))).run Tryz.prog w = .ok () (w.setRow g (bytesV M)) := by
  simp only [Instr.storeAt, Instr.sureAddr, Sem.run_bind, Sem.run_pure, Result.andThen]
  exact run_storeVar_row w g 108 108 (bytesV L) (bytesV M) h (by rw [bytesV_size, hm]; exact info91) (by rw [bytesV_size, bytesV_size, hl, hm]) (allOne_bytesV M)
theorem cells_arr {w : World} {g : Nat} {L M : List Nat} (h : Arr w 108 g L) (hl : L.length = 512) (hm : M.length = 512) :
    ∃ w', (storeCells ⟨g, 0, none⟩ (bytesV M).toList 0).run Tryz.prog w = .ok () w' ∧ Arr w' 108 g M ∧ Keep (fun b => b = g) w w' := by
  refine ⟨w.setRow g (bytesV M), ?_, setRow_heap w g _ _ 108 (0, 0) h, ⟨rfl, rfl, rfl, by simp [World.setRow], fun b hb hn => setRow_other w g b _ hn⟩⟩
  have hi : (Tryz.prog.info? 108).map (·.size) = some (bytesV M).size := by rw [bytesV_size, hm]; exact info91
  have := run_storeVar_row w g 108 108 (bytesV L) (bytesV M) h hi (by rw [bytesV_size, bytesV_size, hl, hm]) (allOne_bytesV M)
  cases hq : Tryz.prog.info? 108 with
  | none => simp [hq] at hi
  | some i =>
    have hs : (bytesV M).size = i.size := by simp [hq] at hi; rw [bytesV_size]; omega
    simpa [storeVar, sizeOf, typeInfo, hq, Value.cells, hs] using this
theorem wp_load_arr {op : Oper} {a : Act} {w : World} {K : Act → World → Prop} {Q : Exit → Act → World → Prop} (x : Operand) (ho : op.op = .load 108 x)
    (g : Nat) (hx : a.eval x = .pointer (some ⟨g, 0, none⟩)) (L : List Nat) (h : Arr w 108 g L) (hl : L.length = 512) (k : K (a.put op.dst (.agg (bytesV L))) w) : op.wp Tryz.prog a w K Q := by
  unfold Oper.wp execOp
  simp only [ho, hx, Sem.run_bind, load_arr h hl, Result.andThen]
  exact k
theorem wp_store_arr {op : Oper} {a : Act} {w : World} {K : Act → World → Prop} {Q : Exit → Act → World → Prop} (x y : Operand) (ho : op.op = .store 108 x y)
    (g : Nat) (hx : a.eval x = .pointer (some ⟨g, 0, none⟩)) (L M : List Nat) (hy : a.eval y = .agg (bytesV M)) (h : Arr w 108 g L) (hl : L.length = 512) (hm : M.length = 512)
    (k : ∀ w', Arr w' 108 g M → Keep (fun b => b = g) w w' → K (a.put op.dst undef) w') : op.wp Tryz.prog a w K Q := by
  unfold Oper.wp execOp
  simp only [ho, hx, hy, Sem.run_bind, store_arr h hl hm, Result.andThen]
  refine k _ (setRow_heap w g _ _ 108 (0, 0) h) ⟨rfl, rfl, rfl, by simp [World.setRow], fun b hb hn => setRow_other w g b _ hn⟩

set_option maxHeartbeats 1000000 in
set_option maxRecDepth 100000 in
theorem set_any (g pos size x : Nat) (L : List Nat) (w : World) (ho : Arr w 108 g L) (hl : L.length = 512) (h1 : 1 ≤ size) (h8 : size ≤ 8) (h2 : pos + size ≤ 512) (hx : x < 256 ^ size) :
    Calls Tryz.prog 93 #[.pointer (some ⟨g, 0, none⟩), .int .i64 (pos : Int), .int .i64 (size : Int), .int .u64 (x : Int)] w fun e w' => (∃ v, e = .returned v) ∧ Arr w' 108 g (wrote L pos x size) ∧ Keep (fun k => k = g) w w' := by
  have S := slice_arr g w
  have K := hide (put_ok 108 g 512 512 pos size x L w ho (by omega) h1 h8 h2 (by omega) (by omega) hx)
  go_enter Tryz.func93, Tryz.ntmps93
  go_wp2_with fail
  refine K.out.mono ?_
  rintro e w1 ⟨rfl, h3, h4⟩
  go_wp2_with fail
  go_end0
  exact ⟨⟨_, rfl⟩, h3, h4⟩

set_option maxHeartbeats 1000000 in
set_option maxRecDepth 100000 in
theorem number_any (g pos size : Nat) (L : List Nat) (w : World) (ho : Arr w 108 g L) (hl : L.length = 512) (hb : AllB L) (h1 : 1 ≤ size) (h8 : size ≤ 8) (h2 : pos + size ≤ 512) :
    Calls Tryz.prog 95 #[.pointer (some ⟨g, 0, none⟩), .int .i64 (pos : Int), .int .i64 (size : Int)] w fun e w' => e = .returned (.int .u64 ((fromB ((L.drop pos).take size) : Nat) : Int)) ∧ w' = w := by
  have S := slice_arr g w
  have K := get_ok (some ⟨g, 0, none⟩) 512 pos size L w ho.seen hb (by omega) h1 h8 (by omega) (by omega)
  rw [hl] at K
  have K := hide K
  clear hl
  go_enter Tryz.func95, Tryz.ntmps95
  go_wp2_with fail
  refine K.out.mono ?_
  rintro e w1 ⟨rfl, rfl⟩
  go_wp2_with fail
  go_ret
  exact ⟨rfl, rfl⟩
end Go.Proofs.YtapjbgkmcplpbaaGreat

namespace Go.Proofs.YtapjbgkmcplpbaaGreat
open Go.RowKit Go.QK

def slotC (s : Slot) : Array Value := #[.int .u64 (s.stamp : Int), .int .i64 (s.pages : Int), .int .i64 (s.log : Int), .int .i64 (s.frames : Int), .int .i64 (s.point : Int)]
theorem wrap_fit (n : Nat) (h : n < 18446744073709551616) : IntKind.u64.wrap (n : Int) = (n : Int) := by rw [IntKind.wrap_u64]; omega

/-- A slot lies at block b. -/
def SlotAt (w : World) (b : Nat) (s : Slot) : Prop := Cells w b (slotC s).toList
theorem SlotAt.at0 {w : World} {b : Nat} {s : Slot} (h : SlotAt w b s) : w.cell? ⟨b, 0, none⟩ = some (.int .u64 (s.stamp : Int)) := (h.2 0 (by simp [slotC])).1
theorem SlotAt.at1 {w : World} {b : Nat} {s : Slot} (h : SlotAt w b s) : w.cell? ⟨b, 1, none⟩ = some (.int .i64 (s.pages : Int)) := (h.2 1 (by simp [slotC])).1
theorem SlotAt.at2 {w : World} {b : Nat} {s : Slot} (h : SlotAt w b s) : w.cell? ⟨b, 2, none⟩ = some (.int .i64 (s.log : Int)) := (h.2 2 (by simp [slotC])).1
theorem SlotAt.at3 {w : World} {b : Nat} {s : Slot} (h : SlotAt w b s) : w.cell? ⟨b, 3, none⟩ = some (.int .i64 (s.frames : Int)) := (h.2 3 (by simp [slotC])).1
theorem SlotAt.at4 {w : World} {b : Nat} {s : Slot} (h : SlotAt w b s) : w.cell? ⟨b, 4, none⟩ = some (.int .i64 (s.point : Int)) := (h.2 4 (by simp [slotC])).1
theorem SlotAt.fr {w : World} {b : Nat} {s : Slot} (h : SlotAt w b s) (j : Nat) (hj : j < 5) : w.frozen? ⟨b, j, none⟩ = false := (h.2 j (by simpa [slotC] using hj)).2
theorem SlotAt.new (w : World) (s : Slot) : SlotAt (w.alloc (.cells (slotC s) 82)) w.heap.size s := by
  exact Cells.new w (slotC s) 82
theorem SlotAt.below {w w' : World} {b : Nat} {s : Slot} (h : SlotAt w b s) (hb : Below w.heap.size w w') : SlotAt w' b s := Cells.keep h (Keep.of_below (S := fun _ => False) hb) (fun q => q)
theorem SlotAt.keep {w w' : World} {b : Nat} {s : Slot} {S : Nat → Prop} (h : SlotAt w b s) (hb : Keep S w w') (hn : ¬ S b) : SlotAt w' b s := Cells.keep h hb hn
theorem SlotAt.lt {w : World} {b : Nat} {s : Slot} (h : SlotAt w b s) : b < w.heap.size := h.1

set_option maxHeartbeats 1000000 in
set_option maxRecDepth 100000 in
theorem sector_any (s : Slot) (w : World) (hf : s.Fit) :
    Calls Tryz.prog 85 #[.agg (slotC s)] w fun e w' => e = .returned (.agg (bytesV (slotB s))) ∧ Below w.heap.size w w' := by
  obtain ⟨f1, f2, f3, f4, f5⟩ := hf
  have Z := zero_run
  have hz0 : (bytesV zerosB)[0]? = some (.int .u8 0) := by kernel_rfl
  obtain ⟨w3, hw3⟩ : ∃ w3, w3 = (((w.alloc (.cells (slotC s) 82)).alloc (.cells (bytesV zerosB) 108)).alloc (.cells ((bytesV zerosB).setIfInBounds 0 (.int .u8 77)) 108)) := ⟨_, rfl⟩
  have z3 : w3.heap.size = w.heap.size + 3 := by rw [hw3]; simp
  have b3 : Below w.heap.size w w3 := by rw [hw3]; exact (((Below.refl _ w).alloc (Nat.le_refl _) _).alloc (by simp) _).alloc (by simp; omega) _
  have s3 : SlotAt w3 w.heap.size s := by rw [hw3]; exact ((SlotAt.new w s).below (alloc_below _ _)).below (alloc_below _ _)
  have a3 : Arr w3 108 (w.heap.size + 1) zerosB := by
    have := (Arr.new (w.alloc (.cells (slotC s) 82)) 108 zerosB).below (alloc_below _ (.cells ((bytesV zerosB).setIfInBounds 0 (.int .u8 77)) 108))
    rw [World.size_alloc] at this
    rw [hw3]; exact this
  have d3 : Arr w3 108 (w.heap.size + 1 + 1) (zerosB.set 0 77) := by
    have e : bytesV (zerosB.set 0 77) = (bytesV zerosB).setIfInBounds 0 (.int .u8 77) := by
      simp [bytesV, ints_set', List.map_set]
    have := Arr.new ((w.alloc (.cells (slotC s) 82)).alloc (.cells (bytesV zerosB) 108)) 108 (zerosB.set 0 77)
    rw [e, World.size_alloc, World.size_alloc] at this
    rw [hw3]; exact this
  have HW3 := hide hw3
  clear hw3
  have L0 : (zerosB.set 0 77).length = 512 := by kernel_rfl
  have K1 := hide (set_any (w.heap.size + 1 + 1) 1 8 s.stamp (zerosB.set 0 77) w3 d3 L0 (by omega) (by omega) (by omega) f1)
  have S3 := hide s3
  have A3 := hide a3
  clear s3 a3 d3
  unfold slotC at HW3
  unfold slotC
  go_enter Tryz.func85, Tryz.ntmps85
  go_wp2_with fail
  rw [← HW3.out]
  refine K1.out.mono ?_
  rintro e w4 ⟨⟨v4, rfl⟩, d4, k4⟩
  have s4 := S3.out.keep k4 (by omega)
  have a4 := hide (A3.out.keep k4 (by omega))
  have b4 : Below w.heap.size w w4 := b3.trans (k4.below (by omega) (fun k hk => by omega))
  have z4 := k4.size
  rw [z3] at z4
  have l4 : (wrote (zerosB.set 0 77) 1 s.stamp 8).length = 512 := by rw [wrote_length]; exact L0
  have K2 := hide (set_any (w.heap.size + 1 + 1) 9 1 s.pages _ w4 d4 l4 (by omega) (by omega) (by omega) f2)
  have c1 := s4.at1
  have e1 := wrap_fit s.pages (by omega)
  have S4 := hide s4
  clear s4 K1 d4 k4 A3 S3 HW3 b3 z3
  go_wp2_with fail
  refine K2.out.mono ?_
  rintro e w5 ⟨⟨v5, rfl⟩, d5, k5⟩
  have s5 := S4.out.keep k5 (by omega)
  have a5 := hide (a4.out.keep k5 (by omega))
  have b5 : Below w.heap.size w w5 := b4.trans (k5.below (by omega) (fun k hk => by omega))
  have z5 := Nat.le_trans z4 k5.size
  have l5 : (wrote (wrote (zerosB.set 0 77) 1 s.stamp 8) 9 s.pages 1).length = 512 := by rw [wrote_length]; exact l4
  have K3 := hide (set_any (w.heap.size + 1 + 1) 10 2 s.log _ w5 d5 l5 (by omega) (by omega) (by omega) f3)
  have c2 := s5.at2
  have e2 := wrap_fit s.log (by omega)
  have S5 := hide s5
  clear s5 K2 d5 k5 a4 S4 b4 z4 c1 e1
  go_wp2_with fail
  refine K3.out.mono ?_
  rintro e w6 ⟨⟨v6, rfl⟩, d6, k6⟩
  have s6 := S5.out.keep k6 (by omega)
  have a6 := hide (a5.out.keep k6 (by omega))
  have b6 : Below w.heap.size w w6 := b5.trans (k6.below (by omega) (fun k hk => by omega))
  have z6 := Nat.le_trans z5 k6.size
  have l6 : (wrote (wrote (wrote (zerosB.set 0 77) 1 s.stamp 8) 9 s.pages 1) 10 s.log 2).length = 512 := by rw [wrote_length]; exact l5
  have K4 := hide (set_any (w.heap.size + 1 + 1) 12 1 s.frames _ w6 d6 l6 (by omega) (by omega) (by omega) f4)
  have c3 := s6.at3
  have e3 := wrap_fit s.frames (by omega)
  have S6 := hide s6
  clear s6 K3 d6 k6 a5 S5 b5 z5 c2 e2
  go_wp2_with fail
  refine K4.out.mono ?_
  rintro e w7 ⟨⟨v7, rfl⟩, d7, k7⟩
  have s7 := S6.out.keep k7 (by omega)
  have a7 := hide (a6.out.keep k7 (by omega))
  have b7 : Below w.heap.size w w7 := b6.trans (k7.below (by omega) (fun k hk => by omega))
  have z7 := Nat.le_trans z6 k7.size
  have l7 : (wrote (wrote (wrote (wrote (zerosB.set 0 77) 1 s.stamp 8) 9 s.pages 1) 10 s.log 2) 12 s.frames 1).length = 512 := by rw [wrote_length]; exact l6
  have K5 := hide (set_any (w.heap.size + 1 + 1) 13 4 s.point _ w7 d7 l7 (by omega) (by omega) (by omega) f5)
  have c4 := s7.at4
  have e4 := wrap_fit s.point (by omega)
  clear s7 K4 d7 k7 a6 S6 b6 z6 c3 e3
  go_wp2_with fail
  refine K5.out.mono ?_
  rintro e w8 ⟨⟨v8, rfl⟩, d8, k8⟩
  have a8 : Arr w8 108 (w.heap.size + 1) zerosB := a7.out.keep k8 (by omega)
  have b8 : Below w.heap.size w w8 := b7.trans (k8.below (by omega) (fun k hk => by omega))
  have z8 := Nat.le_trans z7 k8.size
  have d8' : Arr w8 108 (w.heap.size + 1 + 1) (laid5 s) := d8
  have y1 := d8'.cell 1 (by rw [laid5_length]; omega)
  have y2 := d8'.cell 511 (by rw [laid5_length]; omega)
  have y3 := d8'.frozen 511
  rw [laid5_one] at y1
  obtain ⟨m, hm⟩ : ∃ m, m = s.stamp % 256 := ⟨_, rfl⟩
  generalize (((laid5 s).getD 511 0 : Nat) : Int) = old at y2
  have D9 := d8'.set 511 (s.stamp % 256)
  rw [laid5_set] at D9
  rw [← hm] at D9 y1
  clear hm
  have A9 := a8.keep (Keep.setCell (Keep.refl (fun k => k = w.heap.size + 1 + 1) w8) (g := w.heap.size + 1 + 1) (j := 511) (fun _ => rfl) (.int .u8 (m : Int))) (by omega)
  have B9 : Below w.heap.size w (w8.setCell ⟨w.heap.size + 1 + 1, 511, none⟩ (.int .u8 (m : Int))) := b8.trans (((Keep.refl (fun k => k = w.heap.size + 1 + 1) w8).setCell (g := w.heap.size + 1 + 1) (j := 511) (fun _ => rfl) (.int .u8 (m : Int))).below (by omega) (fun k hk => by omega))
  have HD := hide D9
  have HB := hide B9
  obtain ⟨w9, X9, h9, k9⟩ := cells_arr (M := slotB s) A9 (by kernel_rfl) (slotB_length s)
  clear K5 d8 d8' k8 a7 b7 z7 c4 e4 l4 l5 l6 l7 L0 D9 A9 B9 a8
  go_wp2_with fail
  refine wp_load_arr (.tmp 3) (by rfl) (w.heap.size + 1 + 1) (by rfl) (slotB s) HD.out (slotB_length s) ?_
  have L9 := load_arr h9 (slotB_length s)
  have B9 := hide (HB.out.trans (k9.below (by simp; omega) (fun k hk => by omega)))
  clear HB HD k9 h9
  go_wp2_with fail
  refine bodyPost_ret (v := .agg (bytesV (slotB s))) ?_ rfl ⟨rfl, B9.out⟩
  simp only [Instr.loadAt, Instr.sureAddr, Sem.run_bind, Sem.run_pure, Result.andThen] at L9
  simp [results, Tryz.results85, asAddr, L9]
end Go.Proofs.YtapjbgkmcplpbaaGreat
