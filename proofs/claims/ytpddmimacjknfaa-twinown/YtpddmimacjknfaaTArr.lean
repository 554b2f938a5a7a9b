import Derived.Test.YtpddmimacjknfaaDev12
import Derived.Deep.WholeRow
import Derived.LaidEql
import Derived.ChangeKeysEq
import Derived.Deep.MidRow
namespace Go.QK
theorem ints_set' (l : List Nat) (i x : Nat) : ints (l.set i x) = (ints l).set i (x : Int) := by simp [ints, List.map_set]
def zerosB : List Nat := List.replicate 512 0
end Go.QK
namespace Go.QK
open Go.RowKit

/-! Arrays of bytes: a block of their own, and by value. -/
def bytesV (L : List Nat) : Array Value := ((ints L).map (Value.int .u8)).toArray
@[simp] theorem bytesV_size (L : List Nat) : (bytesV L).size = L.length := by simp [bytesV]
/-- The array L lies at block g. -/
def Arr (w : World) (t : TypeId) (g : Nat) (L : List Nat) : Prop := w.heap[g]? = some (.cells (bytesV L) t)
section
variable {w w' : World} {t : TypeId} {g : Nat} {L : List Nat} {S : Nat → Prop}
theorem Arr.lt (h : Arr w t g L) : g < w.heap.size := (Array.getElem?_eq_some_iff.1 h).1
theorem Arr.keep (h : Arr w t g L) (hk : Keep S w w') (hn : ¬ S g) : Arr w' t g L := (hk.block g h.lt hn).trans h
theorem Arr.below (h : Arr w t g L) (hk : Below w.heap.size w w') : Arr w' t g L := (hk.block g h.lt).trans h
theorem Arr.new (w : World) (t : TypeId) (L : List Nat) : Arr (w.alloc (.cells (bytesV L) t)) t w.heap.size L := heap_alloc_last w _
theorem Arr.cell (h : Arr w t g L) (i : Nat) (hi : i < L.length) : w.cell? ⟨g, i, none⟩ = some (.int .u8 ((L.getD i 0 : Nat) : Int)) := by
  rw [cell_of_row w g i _ t (0, 0) h]
  simp [bytesV, ints, hi]
theorem Arr.frozen (h : Arr w t g L) (i : Nat) : w.frozen? ⟨g, i, none⟩ = false := by
  have h' : w.heap[g]? = some (.cells (bytesV L) t (0, 0)) := h
  simp [World.frozen?, h']
theorem Arr.seen (h : Arr w t g L) : Bytes w (some ⟨g, 0, none⟩) L := by
  refine .inr ⟨g, 0, rfl, h.lt, fun i hi => ?_⟩
  rw [Nat.zero_add, h.cell i (by simpa using hi), ints_getD]
theorem Arr.set (h : Arr w t g L) (i y : Nat) : Arr (w.setCell ⟨g, i, none⟩ (.int .u8 (y : Int))) t g (L.set i y) := by
  have h' : w.heap[g]? = some (.cells (bytesV L) t (0, 0)) := h
  unfold Arr
  have e : bytesV (L.set i y) = (bytesV L).setIfInBounds i (.int .u8 (y : Int)) := by
    simp [bytesV, ints_set', List.map_set]
  rw [e]
  simp [World.setCell, Array.getElem?_modify, h']
end
end Go.QK
namespace Go.Proofs.Ytpddmimacjknfaa
open Go.RowKit Go.QK
theorem info91 : (Try.prog.info? 76).map (fun i => i.size) = some 512 := by kernel_rfl
theorem zero91 : (Try.prog.info? 76).map (fun i => i.zero) = some (some (.agg (bytesV zerosB))) := by kernel_rfl
theorem zero_run (w : World) : (zeroValue 76).run Try.prog w = .ok (.agg (bytesV zerosB)) w := by
  have h := zero91
  cases hq : Try.prog.info? 76 with
  | none => simp [hq] at h
  | some i =>
    rw [hq] at h
    simp only [Option.map_some, Option.some.injEq] at h
    simp [zeroValue, typeInfo, hq, h]
theorem load_arr {w : World} {g : Nat} {L : List Nat} (h : Arr w 76 g L) (hl : L.length = 512) : (Instr.loadAt 76 (.pointer (some ⟨g, 0, none⟩))).run Try.prog w = .ok (.agg (bytesV L)) w := by
  simp only [Instr.loadAt, Instr.sureAddr, Sem.run_bind, Sem.run_pure, Result.andThen]
  exact run_loadVar_row w g 76 76 (bytesV L) (0, 0) _ h Try.underlying76 rfl (by rw [bytesV_size, hl]; exact info91)
theorem slice_arr (g : Nat) (w : World) : (Instr.sliceAt 76 (.pointer (some ⟨g, 0, none⟩)) none none none).run Try.prog w = .ok (.slice (some ⟨g, 0, none⟩) 512 512) w := by
  go_simp

theorem allOne_bytesV (L : List Nat) : (bytesV L).all (·.oneCell') = true := by
  rw [Array.all_eq_true_iff_forall_mem]
  intro v hv
  simp only [bytesV, List.mem_toArray, List.mem_map] at hv
  obtain ⟨x, _, rfl⟩ := hv
  rfl
theorem store_arr {w : World} {g : Nat} {L M : List Nat} (h : Arr w 76 g L) (hl : L.length = 512) (hm : M.length = 512) : (Instr.storeAt 76 (.pointer (some ⟨g, 0, none⟩)) (.agg (bytesV M))).run Try.prog w = .ok () (w.setRow g (bytesV M)) := by
  simp only [Instr.storeAt, Instr.sureAddr, Sem.run_bind, Sem.run_pure, Result.andThen]
  exact run_storeVar_row w g 76 76 (bytesV L) (bytesV M) h (by rw [bytesV_size, hm]; exact info91) (by rw [bytesV_size, bytesV_size, hl, hm]) (allOne_bytesV M)
theorem cells_arr {w : World} {g : Nat} {L M : List Nat} (h : Arr w 76 g L) (hl : L.length = 512) (hm : M.length = 512) :
    ∃ w', (storeCells ⟨g, 0, none⟩ (bytesV M).toList 0).run Try.prog w = .ok () w' ∧ Arr w' 76 g M ∧ Keep (fun b => b = g) w w' := by
  refine ⟨w.setRow g (bytesV M), ?_, setRow_heap w g _ _ 76 (0, 0) h, ⟨rfl, rfl, rfl, by simp [World.setRow], fun b hb hn => setRow_other w g b _ hn⟩⟩
  have hi : (Try.prog.info? 76).map (·.size) = some (bytesV M).size := by rw [bytesV_size, hm]; exact info91
  have := run_storeVar_row w g 76 76 (bytesV L) (bytesV M) h hi (by rw [bytesV_size, bytesV_size, hl, hm]) (allOne_bytesV M)
  cases hq : Try.prog.info? 76 with
  | none => simp [hq] at hi
  | some i =>
    have hs : (bytesV M).size = i.size := by simp [hq] at hi; rw [bytesV_size]; omega
    simpa [storeVar, sizeOf, typeInfo, hq, Value.cells, hs] using this
theorem wp_load_arr {op : Oper} {a : Act} {w : World} {K : Act → World → Prop} {Q : Exit → Act → World → Prop} (x : Operand) (ho : op.op = .load 76 x)
    (g : Nat) (hx : a.eval x = .pointer (some ⟨g, 0, none⟩)) (L : List Nat) (h : Arr w 76 g L) (hl : L.length = 512) (k : K (a.put op.dst (.agg (bytesV L))) w) : op.wp Try.prog a w K Q := by
  unfold Oper.wp execOp
  simp only [ho, hx, Sem.run_bind, load_arr h hl, Result.andThen]
  exact k
theorem wp_store_arr {op : Oper} {a : Act} {w : World} {K : Act → World → Prop} {Q : Exit → Act → World → Prop} (x y : Operand) (ho : op.op = .store 76 x y)
    (g : Nat) (hx : a.eval x = .pointer (some ⟨g, 0, none⟩)) (L M : List Nat) (hy : a.eval y = .agg (bytesV M)) (h : Arr w 76 g L) (hl : L.length = 512) (hm : M.length = 512)
    (k : ∀ w', Arr w' 76 g M → Keep (fun b => b = g) w w' → K (a.put op.dst undef) w') : op.wp Try.prog a w K Q := by
  unfold Oper.wp execOp
  simp only [ho, hx, hy, Sem.run_bind, store_arr h hl hm, Result.andThen]
  refine k _ (setRow_heap w g _ _ 76 (0, 0) h) ⟨rfl, rfl, rfl, by simp [World.setRow], fun b hb hn => setRow_other w g b _ hn⟩

theorem part5 (L : List Nat) (j : Nat) (hj : j < L.length) (w : World) : (part 5 (bytesV L) j).run Try.prog w = .ok (.int .u8 ((L.getD j 0 : Nat) : Int)) w := by
  have e : (bytesV L)[j]? = some (.int .u8 ((L.getD j 0 : Nat) : Int)) := by simp [bytesV, ints, hj]
  have ha : (isAgg 5).run Try.prog w = .ok false w := by
    unfold isAgg
    rw [Sem.run_bind, run_underlying Try.underlying5 w]
    rfl
  unfold part
  rw [Sem.run_bind, ha]
  simp only [Result.andThen_ok]
  simp [e]
theorem items5 (d : Nat) (L M : List Nat) (w : World) : (is : List Nat) → (∀ j ∈ is, j < L.length ∧ j < M.length) → (Op.eqItems (d + 1) 5 1 (bytesV L) (bytesV M) is).run Try.prog w = .ok (is.all fun j => L.getD j 0 == M.getD j 0) w
  | [], _ => by simp [Op.eqItems]
  | j :: is, h => by
    have ih := items5 d L M w is (fun k hk => h k (by simp [hk]))
    obtain ⟨h1, h2⟩ := h j (by simp)
    simp only [Op.eqItems, Sem.run_bind, Nat.mul_one, part5 L j h1 w, part5 M j h2 w, Result.andThen_ok, run_equalIn_int w d 5 .u8 .u8 _ _ Try.underlying5]
    by_cases q : L.getD j 0 = M.getD j 0
    · have q' : ((((L.getD j 0 : Nat) : Int)) == ((M.getD j 0 : Nat) : Int)) = true := by rw [q]; simp
      rw [q']
      simp only [Bool.not_true, Bool.false_eq_true, if_false, ih, List.all_cons, q, beq_self_eq_true, Bool.true_and]
    · have q' : ((((L.getD j 0 : Nat) : Int)) == ((M.getD j 0 : Nat) : Int)) = false := by rw [beq_eq_false_iff_ne]; omega
      have q2 : (L.getD j 0 == M.getD j 0) = false := by rw [beq_eq_false_iff_ne]; exact q
      rw [q']
      simp [List.all_cons]
      intro hh
      exact absurd (by simpa using hh) q
theorem neq_arr (L M : List Nat) (hl : L.length = 512) (hm : M.length = 512) (w : World) : (binOp .neq 76 (.agg (bytesV L)) (.agg (bytesV M))).run Try.prog w = .ok (.bool (!decide (L = M))) w := by
  obtain ⟨i, hi⟩ : ∃ i, Try.prog.info? 5 = some i := by
    have := info5
    cases hq : Try.prog.info? 5 with
    | none => simp [hq] at this
    | some i => exact ⟨i, rfl⟩
  have hc : Try.prog.cellsOf 5 = 1 := by kernel_rfl
  have e := run_equalIn_array w 9999 (bytesV L) (bytesV M) Try.underlying76 hi
  rw [hc] at e
  have k := items5 9998 L M w (List.range 512) (fun j hj => by simp at hj; omega)
  rw [k] at e
  have ea : ((List.range 512).all fun j => L.getD j 0 == M.getD j 0) = decide (L = M) := by
    by_cases q : L = M
    · subst q; simp
    · rw [decide_eq_false q, List.all_eq_false]
      by_cases r : ∀ j, j < 512 → L.getD j 0 = M.getD j 0
      · exfalso
        apply q
        apply List.ext_getElem (by omega)
        intro j h1 h2
        have := r j (by omega)
        simpa [h1, h2] using this
      · simp only [Classical.not_forall] at r
        obtain ⟨j, hj, hne⟩ := r
        exact ⟨j, by simpa using hj, by simpa using hne⟩
  rw [ea] at e
  simp only [binOp]
  simp [Op.equal, Op.maxDepth, e]
theorem wp_load_seen {op : Oper} {a : Act} {w : World} {K : Act → World → Prop} {Q : Exit → Act → World → Prop} (x : Operand) (ho : op.op = .load 76 x)
    (g : Nat) (hx : a.eval x = .pointer (some ⟨g, 0, none⟩)) (L : List Nat) (h : Bytes w (some ⟨g, 0, none⟩) L) (hl : L.length = 512) (k : K (a.put op.dst (.agg (bytesV L))) w) : op.wp Try.prog a w K Q := by
  refine wp_load_mid 76 x ho g 0 hx ((ints L).map (Value.int .u8)) _ ?_ Try.underlying76 rfl (by rw [List.length_map, ints_length, hl]; exact info91) k
  intro j v hv
  have hj : j < L.length := by simpa using (List.getElem?_eq_some_iff.1 hv).1
  obtain ⟨b, off, he, _, hc⟩ := h.at hj
  cases he
  rw [hc]
  simp [ints, hj] at hv
  rw [← hv]
  simp [hj]
theorem wp_toArr {op : Oper} {a : Act} {w : World} {K : Act → World → Prop} {Q : Exit → Act → World → Prop} (x : Operand) (ho : op.op = .sliceToArrayPointer 76 x)
    (ad : Addr) (c : Nat) (hx : a.eval x = .slice (some ad) 512 c) (k : K (a.put op.dst (.pointer (some ad))) w) : op.wp Try.prog a w K Q := by
  have e : (Instr.arrayAt 76 (.slice (some ad) 512 c)).run Try.prog w = .ok (.pointer (some ad)) w := by
    unfold Instr.arrayAt
    rw [Sem.run_bind, run_underlying Try.underlying76 w]
    rfl
  unfold Oper.wp execOp
  simp only [ho, hx, Sem.run_bind, e, Result.andThen]
  exact k

end Go.Proofs.Ytpddmimacjknfaa
