import Derived.Test.YtlloppalagddnaaSrK
import Derived.Test.YtlloppalagddnaaTake
import Derived.Test.YtlloppalagddnaaHold
import Derived.Deep.WholeRow
import Derived.Deep.RegionHeld
import Derived.Deep.DeepCutAuto
import Derived.BigQuiet
import Derived.Deep.QuietTactic
import Derived.Great.BuildSlice
set_option linter.all false
namespace Go.Proofs.Ytlloppalagddnaa
open Go.RowKit Go.QK Go.Maps Go.QM Quota
set_option maxRecDepth 100000
/-- A world under a name. -/
theorem named {P : World → Prop} {w : World} (h : ∀ w', w' = w → P w') : P w := h w rfl
/-! Records: seventeen cells. -/
structure RZ where
  lsn : Int
  kind : Int
  tx : Int
  prev : Int
  wp : Int
  wi : Int
  sp : Int
  si : Int
  delta : Int
  id : Int
  grp : Int
  lo : Int
  hi : Int
  val : Int
  la : Option Addr
  nl : Nat
  lc : Nat
  da : Option Addr
  nd : Nat
  dc : Nat
  nx : Int
abbrev rzA (r : RZ) : Array Value := #[.int .i64 r.lsn, .int .i64 r.kind, .int .i64 r.tx, .int .i64 r.prev, .int .i64 r.wp, .int .i64 r.wi, .int .i64 r.sp, .int .i64 r.si, .int .i64 r.delta, .int .i64 r.id, .int .i64 r.grp, .int .i64 r.lo, .int .i64 r.hi, .int .i64 r.val, .slice r.la r.nl r.lc, .slice r.da r.nd r.dc, .int .i64 r.nx]
def rzC (r : RZ) : List Value := (rzA r).toList
abbrev rzs (l : List RZ) : List Value := rowsC rzC l
theorem rzC_len (r : RZ) : (rzC r).length = 17 := rfl
theorem rzs_len (l : List RZ) : (rzs l).length = l.length * 17 := by
  induction l with
  | nil => rfl
  | cons x r ih => simp only [rzs, rowsC, List.flatMap_cons, List.length_append, List.length_cons] at ih ⊢; rw [ih, rzC_len]; omega
theorem rzs_one (l : List RZ) : ∀ u ∈ rzs l, u.oneCell' = true := by
  intro u hu
  obtain ⟨x, _, hx⟩ := List.mem_flatMap.1 hu
  have : (rzC x).all (·.oneCell') = true := rfl
  exact List.all_eq_true.1 this u hx
theorem rzs_app (a b : List RZ) : rzs (a ++ b) = rzs a ++ rzs b := by simp [rzs, rowsC]
abbrev rz0 : RZ := ⟨0, 0, 0, 0, 0, 0, 0, 0, 0, 0, 0, 0, 0, 0, none, 0, 0, none, 0, 0, 0⟩
abbrev mkZ : RZ := ⟨-77, 0, 0, 0, 0, 0, 0, 0, 0, 0, 0, 0, 0, 0, none, 0, 0, none, 0, 0, 0⟩
theorem info71 : (Try.prog.info? 71).map (fun i => (i.zero, i.size, i.bytes)) = some (some (.agg (rzA rz0)), 17, 168) := by kernel_rfl
theorem size71 : (Try.prog.info? 71).map (·.size) = some 17 := by kernel_rfl
theorem size71' {cs : Array Value} (h : cs.size = 17) : (Try.prog.info? 71).map (·.size) = some cs.size := by rw [h]; exact size71
theorem run_loadAt (w : World) (b off : Nat) (ty : TypeId) (cs : Array Value) (d : TypeDesc) (hc : ∀ j v, cs.toList[j]? = some v → w.cell? ⟨b, off + j, none⟩ = some v) (hu : Try.prog.underlying ty = some d) (hd : (match d with | .struct _ | .array _ _ => true | _ => false) = true) (hi : (Try.prog.info? ty).map (·.size) = some cs.size) :
    (loadVar ty ⟨b, off, none⟩).run Try.prog w = .ok (.agg cs) w := by
  have hl : (loadCells ⟨b, off, none⟩ cs.toList.length).run Try.prog w = .ok cs.toList.toArray w :=
    run_loadCells_list (P := Try.prog) w ⟨b, off, none⟩ cs.toList (fun j v hv => by
      rw [addr_add]
      exact hc j v hv)
  cases hq : Try.prog.info? ty with
  | none => simp [hq] at hi
  | some i =>
    have hs : i.size = cs.size := by simpa [hq] using hi
    have hagg : (isAgg ty).run Try.prog w = .ok true w := by
      unfold isAgg
      rw [Sem.run_bind, run_underlying hu w]
      cases d <;> simp_all
    simp only [Array.length_toList, Array.toArray_toList] at hl
    simp [loadVar, Sem.run_bind, hagg, sizeOf, typeInfo, hq, hs, hl]
theorem exec_load71 {o : Oper} {ev : Operand → Value} {x : Operand} {b off : Nat} {cs : Array Value} {w : World} (ho : o.op = .load 71 x) (hx : ev x = .pointer (some ⟨b, off, none⟩)) (hc : ∀ j v, cs.toList[j]? = some v → w.cell? ⟨b, off + j, none⟩ = some v) (hs : cs.size = 17) : (execOp ev o).run Try.prog w = .ok (.value (.agg cs)) w := by
  have h := run_loadAt w b off 71 cs _ hc Try.underlying71 rfl (size71' hs)
  unfold execOp
  simp only [ho, hx, Instr.loadAt, Instr.sureAddr, Sem.run_bind, Sem.run_pure, Result.andThen_ok, h]
theorem newBox {w w' : World} {o : Obj} (h : Keep (fun k => k = w.heap.size) (w.alloc o) w') : Below w.heap.size w w' := by
  have h1 := alloc_below w o
  exact h1.trans (h.below h1.size (fun k hk q => by omega))
theorem fill71 (r : RZ) : Instr.fill (fun i => some (i * 17, 17)) ((Array.range (1 * 17)).map ((Value.agg (rzA rz0)).cells[· % (Value.agg (rzA rz0)).cells.size]!)) [(0, .agg (rzA r))] = some (rzA r) := by kernel_rfl
section
variable {ops : Array Oper} {rest : List Oper} {a : Act} {w : World} {Q : Exit → Act → World → Prop} {d : Option Tmp} {ty : TypeId} {ps : String} {af : Array Edge} {x y : Operand} {b : Nat} {cs cs' : Array Value}
theorem wpList_ld {off : Nat} (hc : ∀ j v, cs.toList[j]? = some v → w.cell? ⟨b, off + j, none⟩ = some v) (hs : cs.size = 17) (hx : a.eval x = .pointer (some ⟨b, off, none⟩)) (h : wpList Try.prog ops Q rest (a.put d (.agg cs)) w) :
    wpList Try.prog ops Q ({ dst := d, op := .load 71 x, type := ty, pos := ps, after := af, guard := none } :: rest) a w := by
  have hrun := run_loadAt w b off 71 cs _ hc Try.underlying71 rfl (size71' hs)
  refine wpList_plain rfl fun K hK => ?_
  unfold Oper.wp execOp
  simp only [hx, Instr.loadAt, Instr.sureAddr, Sem.run_bind, Sem.run_pure, Result.andThen_ok, hrun]
  exact hK _ _ h
theorem wpList_lb (hb : RBox w b 71 cs) (hs : cs.size = 17) (hx : a.eval x = .pointer (some ⟨b, 0, none⟩)) (h : wpList Try.prog ops Q rest (a.put d (.agg cs)) w) :
    wpList Try.prog ops Q ({ dst := d, op := .load 71 x, type := ty, pos := ps, after := af, guard := none } :: rest) a w :=
  wpList_load_row rfl 71 x rfl b hx 71 cs (0, 0) _ hb Try.underlying71 rfl (size71' hs) h
theorem wpList_st (hb : RBox w b 71 cs) (hs : cs.size = 17) (hs' : cs'.size = 17) (h1 : cs'.toList.all (·.oneCell') = true) (hx : a.eval x = .pointer (some ⟨b, 0, none⟩)) (hy : a.eval y = .agg cs')
    (h : ∀ w', RBox w' b 71 cs' → Keep (fun k => k = b) w w' → wpList Try.prog ops Q rest (a.put d undef) w') :
    wpList Try.prog ops Q ({ dst := d, op := .store 71 x y, type := ty, pos := ps, after := af, guard := none } :: rest) a w := by
  have hrun := run_storeVar_row (P := Try.prog) w b 71 71 cs cs' hb (size71' hs') (by rw [hs, hs']) (by rw [← Array.all_toList]; exact h1)
  refine wpList_plain rfl fun K hK => ?_
  unfold Oper.wp execOp
  simp only [hx, hy, Instr.storeAt, Instr.sureAddr, Sem.run_bind, Sem.run_pure, Result.andThen_ok, hrun]
  exact hK _ _ (h _ (RBox.setRow hb cs') (keep_setRow _ _ _))
theorem wpList_b22 {r : RZ} (hx : a.eval x = .agg (rzA r)) (h : wpList Try.prog ops Q rest (a.put d (.slice (some ⟨w.heap.size, 0, none⟩) 1 1)) (w.alloc (.cells (rzA r) 71))) :
    wpList Try.prog ops Q ({ dst := d, op := .buildSlice 22 1 #[(0, x)], type := ty, pos := ps, after := af, guard := none } :: rest) a w := by
  obtain ⟨i0, hi, h0, h2, h3⟩ := info_of info71
  refine wpList_buildSlice rfl 22 71 1 #[(0, x)] rfl (rzA r) i0 _ Try.underlying22 hi h0 (by rw [h2]; decide) (by rw [h2]; decide) ?_ h
  rw [h2]
  simp only [List.map_toArray, List.map_cons, List.map_nil, hx]
  exact fill71 r
end
theorem lies_rz (w : World) (r : RZ) : Lies (w.alloc (.cells (rzA r) 71)) (some ⟨w.heap.size, 0, none⟩) (rzs [r]) := by
  have h := Cells.new w (rzA r) 71
  have e : rzs [r] = (rzA r).toList := by simp [rzs, rowsC, rzC]
  rw [e]
  refine .inr ⟨w.heap.size, 0, rfl, h.1, fun i hi => ?_⟩
  have q := (h.2 i hi).1
  rw [Nat.zero_add]
  exact q
theorem rz_at {w : World} {a : Option Addr} {l : List RZ} (h : Lies w a (rzs l)) (k : Nat) (hk : k < l.length) : ∃ b off, a = some ⟨b, off, none⟩ ∧ b < w.heap.size ∧ ∀ j v, (rzA l[k]).toList[j]? = some v → w.cell? ⟨b, off + k * 17 + j, none⟩ = some v :=
  Lies.rowAt rzC 17 rzC_len h k hk (by decide)
theorem slice22 {a : Option Addr} {n cap : Nat} (k : Nat) (w : World) (h : k ≤ cap) (h4 : a = none → cap = 0) :
    (Instr.slice 22 (.slice a n cap) none (some (.int .i64 k)) none).run Try.prog w = .ok (.slice a k cap) w := by
  cases a with
  | none =>
    obtain rfl := h4 rfl
    obtain rfl : k = 0 := by omega
    go_simp
  | some ad =>
    obtain ⟨b, off, sp⟩ := ad
    go_simp
theorem grow_open {w : World} {B e size n : Nat} {v : Value} {xs : List Value} (h : GRow w B e size v n xs) (hn : 0 < n) : ∃ g c, v = .slice (some ⟨g, 0, none⟩) n c ∧ n ≤ c := by
  rcases h.2 with ⟨_, q⟩ | ⟨g', cap, cur, q, _, _, h3, _⟩
  · omega
  · exact ⟨g', cap, q, h3⟩
theorem grown_keep {w w' : World} {v : Value} (h : w.grownBy w' v.ownBlock) : Keep (fun g => v.ownBlock = some g) w w' := (Keep.refl _ w).grown h (fun _ hg _ => hg)
end Go.Proofs.Ytlloppalagddnaa
