import Derived.Test.YtapjbgkmcplpbaaFld
namespace Go.Proofs.Ytapjbgkmcplpbaa
open Go.RowKit Go.QK

/-! A slot's bytes. -/
theorem info91 : (Try.prog.info? 91).map (fun i => i.size) = some 512 := by kernel_rfl
theorem zero91 : (Try.prog.info? 91).map (fun i => i.zero) = some (some (.agg (bytesV zerosB))) := by kernel_rfl
theorem zero_run (w : World) : (zeroValue 91).run Try.prog w = .ok (.agg (bytesV zerosB)) w := by
  have h := zero91
  cases hq : Try.prog.info? 91 with
  | none => simp [hq] at h
  | some i =>
    rw [hq] at h
    simp only [Option.map_some, Option.some.injEq] at h
    simp [zeroValue, typeInfo, hq, h]
theorem load_arr {w : World} {g : Nat} {L : List Nat} (h : Arr w 91 g L) (hl : L.length = 512) : (Instr.loadAt 91 (.pointer (some ⟨g, 0, none⟩))).run Try.prog w = .ok (.agg (bytesV L)) w := by
  simp only [Instr.loadAt, Instr.sureAddr, Sem.run_bind, Sem.run_pure, Result.andThen]
  exact run_loadVar_row w g 91 91 (bytesV L) (0, 0) _ h Try.underlying91 rfl (by rw [bytesV_size, hl]; exact info91)
theorem slice_arr (g : Nat) (w : World) : (Instr.sliceAt 91 (.pointer (some ⟨g, 0, none⟩)) none none none).run Try.prog w = .ok (.slice (some ⟨g, 0, none⟩) 512 512) w := by
  go_simp

theorem allOne_bytesV (L : List Nat) : (bytesV L).all (·.oneCell') = true := by
  rw [Array.all_eq_true_iff_forall_mem]
  intro v hv
  simp only [bytesV, List.mem_toArray, List.mem_map] at hv
  obtain ⟨x, _, rfl⟩ := hv
  rfl
theorem store_arr {w : World} {g : Nat} {L M : List Nat} (h : Arr w 91 g L) (hl : L.length = 512) (hm : M.length = 512) : (Instr.storeAt 91 (.pointer (some ⟨g, 0, none⟩)) (.agg (bytesV M))).run Try.prog w = .ok () (w.setRow g (bytesV M)) := by
  simp only [Instr.storeAt, Instr.sureAddr, Sem.run_bind, Sem.run_pure, Result.andThen]
  exact run_storeVar_row w g 91 91 (bytesV L) (bytesV M) h (by rw [bytesV_size, hm]; exact info91) (by rw [bytesV_size, bytesV_size, hl, hm]) (allOne_bytesV M)
theorem cells_arr {w : World} {g : Nat} {L M : List Nat} (h : Arr w 91 g L) (hl : L.length = 512) (hm : M.length = 512) :
    ∃ w', (storeCells ⟨g, 0, none⟩ (bytesV M).toList 0).run Try.prog w = .ok () w' ∧ Arr w' 91 g M ∧ Keep (fun b => b = g) w w' := by
  refine ⟨w.setRow g (bytesV M), ?_, setRow_heap w g _ _ 91 (0, 0) h, ⟨rfl, rfl, rfl, by simp [World.setRow], fun b hb hn => setRow_other w g b _ hn⟩⟩
  have hi : (Try.prog.info? 91).map (·.size) = some (bytesV M).size := by rw [bytesV_size, hm]; exact info91
  have := run_storeVar_row w g 91 91 (bytesV L) (bytesV M) h hi (by rw [bytesV_size, bytesV_size, hl, hm]) (allOne_bytesV M)
  cases hq : Try.prog.info? 91 with
  | none => simp [hq] at hi
  | some i =>
    have hs : (bytesV M).size = i.size := by simp [hq] at hi; rw [bytesV_size]; omega
    simpa [storeVar, sizeOf, typeInfo, hq, Value.cells, hs] using this
theorem wp_load_arr {op : Oper} {a : Act} {w : World} {K : Act → World → Prop} {Q : Exit → Act → World → Prop} (x : Operand) (ho : op.op = .load 91 x)
    (g : Nat) (hx : a.eval x = .pointer (some ⟨g, 0, none⟩)) (L : List Nat) (h : Arr w 91 g L) (hl : L.length = 512) (k : K (a.put op.dst (.agg (bytesV L))) w) : op.wp Try.prog a w K Q := by
  unfold Oper.wp execOp
  simp only [ho, hx, Sem.run_bind, load_arr h hl, Result.andThen]
  exact k
theorem wp_store_arr {op : Oper} {a : Act} {w : World} {K : Act → World → Prop} {Q : Exit → Act → World → Prop} (x y : Operand) (ho : op.op = .store 91 x y)
    (g : Nat) (hx : a.eval x = .pointer (some ⟨g, 0, none⟩)) (L M : List Nat) (hy : a.eval y = .agg (bytesV M)) (h : Arr w 91 g L) (hl : L.length = 512) (hm : M.length = 512)
    (k : ∀ w', Arr w' 91 g M → Keep (fun b => b = g) w w' → K (a.put op.dst undef) w') : op.wp Try.prog a w K Q := by
  unfold Oper.wp execOp
  simp only [ho, hx, hy, Sem.run_bind, store_arr h hl hm, Result.andThen]
  refine k _ (setRow_heap w g _ _ 91 (0, 0) h) ⟨rfl, rfl, rfl, by simp [World.setRow], fun b hb hn => setRow_other w g b _ hn⟩

set_option maxHeartbeats 1000000 in
set_option maxRecDepth 100000 in
theorem set_any (g pos size x : Nat) (L : List Nat) (w : World) (ho : Arr w 91 g L) (hl : L.length = 512) (h1 : 1 ≤ size) (h8 : size ≤ 8) (h2 : pos + size ≤ 512) (hx : x < 256 ^ size) :
    Calls Try.prog 62 #[.pointer (some ⟨g, 0, none⟩), .int .i64 (pos : Int), .int .i64 (size : Int), .int .u64 (x : Int)] w fun e w' => (∃ v, e = .returned v) ∧ Arr w' 91 g (wrote L pos x size) ∧ Keep (fun k => k = g) w w' := by
  have S := slice_arr g w
  have K := hide (put_ok 91 g 512 512 pos size x L w ho (by omega) h1 h8 h2 (by omega) (by omega) hx)
  go_enter Try.func62, Try.ntmps62
  go_wp2_with fail
  refine K.out.mono ?_
  rintro e w1 ⟨rfl, h3, h4⟩
  go_wp2_with fail
  go_end0
  exact ⟨⟨_, rfl⟩, h3, h4⟩

set_option maxHeartbeats 1000000 in
set_option maxRecDepth 100000 in
theorem number_any (g pos size : Nat) (L : List Nat) (w : World) (ho : Arr w 91 g L) (hl : L.length = 512) (hb : AllB L) (h1 : 1 ≤ size) (h8 : size ≤ 8) (h2 : pos + size ≤ 512) :
    Calls Try.prog 61 #[.pointer (some ⟨g, 0, none⟩), .int .i64 (pos : Int), .int .i64 (size : Int)] w fun e w' => e = .returned (.int .u64 ((fromB ((L.drop pos).take size) : Nat) : Int)) ∧ w' = w := by
  have S := slice_arr g w
  have K := get_ok (some ⟨g, 0, none⟩) 512 pos size L w ho.seen hb (by omega) h1 h8 (by omega) (by omega)
  rw [hl] at K
  have K := hide K
  clear hl
  go_enter Try.func61, Try.ntmps61
  go_wp2_with fail
  refine K.out.mono ?_
  rintro e w1 ⟨rfl, rfl⟩
  go_wp2_with fail
  go_ret
  exact ⟨rfl, rfl⟩
end Go.Proofs.Ytapjbgkmcplpbaa
