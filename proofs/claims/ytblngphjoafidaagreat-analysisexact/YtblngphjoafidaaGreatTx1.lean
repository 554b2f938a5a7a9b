import Derived.Test.YtblngphjoafidaaGreatTxK
import Derived.Test.YtblngphjoafidaaGreatHold
import Derived.Deep.RegionHeld
import Derived.Deep.DeepCutAuto
import Derived.BigQuiet
import Derived.Deep.QuietTactic
namespace Go.Proofs.YtblngphjoafidaaGreat
open Go.RowKit Go.QK Go.Maps Go.QM Go.QT
set_option maxRecDepth 100000
/-- A world under a name. -/
theorem named {P : World → Prop} {w : World} (h : ∀ w', w' = w → P w') : P w := h w rfl
theorem ret_int {k : IntKind} {a b : Int} (h : a = b) : Ending.returned (.int k a) = .returned (.int k b) := by rw [h]
set_option maxHeartbeats 400000 in
theorem num_eq (e : Int) (w : World) : Calls Tryz.prog 9 #[.int .i64 e] w fun r w' => r = .returned (.int .i64 e) ∧ w = w' := by
  go_enter Tryz.func9, Tryz.ntmps9
  go_wp2
  go_ret
  exact ⟨rfl, rfl⟩
set_option maxHeartbeats 400000 in
theorem mayNext_any (n : Int) (w : World) : Calls Tryz.prog 43 #[.int .i64 n] w fun r w' => r = .returned (.bool (isNext n)) ∧ w = w' := by
  unfold isNext
  by_cases h1 : 1 ≤ n
  · have e1 : decide (1 ≤ n) = true := by simpa using h1
    rw [e1, Bool.true_and]
    go_enter Tryz.func43, Tryz.ntmps43
    go_wp2
    go_ret
    exact ⟨rfl, rfl⟩
  · have e1 : decide (1 ≤ n) = false := by simpa using h1
    rw [e1, Bool.false_and]
    go_enter Tryz.func43, Tryz.ntmps43
    go_wp2
    go_ret
    exact ⟨rfl, rfl⟩
set_option maxHeartbeats 400000 in
theorem mayLsn_any (n : Int) (w : World) : Calls Tryz.prog 45 #[.int .i64 n] w fun r w' => r = .returned (.bool (isLsn n)) ∧ w = w' := by
  unfold isLsn
  by_cases h1 : 1 ≤ n
  · have e1 : decide (1 ≤ n) = true := by simpa using h1
    rw [e1, Bool.true_and]
    go_enter Tryz.func45, Tryz.ntmps45
    go_wp2
    go_ret
    exact ⟨rfl, rfl⟩
  · have e1 : decide (1 ≤ n) = false := by simpa using h1
    rw [e1, Bool.false_and]
    go_enter Tryz.func45, Tryz.ntmps45
    go_wp2
    go_ret
    exact ⟨rfl, rfl⟩

/-! A table in memory: its block, its map. -/
structure PT (w : World) (b m : Nat) (t : TbM) : Prop where
  box : Cells w b [.map (some m), .int .i64 t.next]
  mp : AnyAt Tryz.prog 3 w m (prT t.L)
  ok : t.Ok
theorem PT.keep {S : Nat → Prop} {w w' : World} {b m : Nat} {t : TbM} (h : PT w b m t) (hk : Keep S w w') (h1 : ¬ S b) (h2 : ¬ S m) : PT w' b m t := ⟨h.box.keep hk h1, anyAt_keep h.mp hk h2, h.ok⟩
theorem PT.below {w w' : World} {b m : Nat} {t : TbM} (h : PT w b m t) (hk : Below w.heap.size w w') : PT w' b m t := h.keep (Keep.of_below (S := fun _ => False) hk) id id
theorem PT.lt {w : World} {b m : Nat} {t : TbM} (h : PT w b m t) : b < w.heap.size ∧ m < w.heap.size := ⟨h.box.1, World.ownsMap.lt h.mp⟩
theorem PT.ne {w : World} {b m : Nat} {t : TbM} (h : PT w b m t) : b ≠ m := by
  intro q
  subst q
  obtain ⟨es, clock, hb, _⟩ := h.mp
  have := (h.box.get 0 _ rfl).1
  simp [World.cell?, hb] at this
theorem zero26 : ∀ u : World, (zeroValue 58).run Tryz.prog u = .ok (lvV ⟨0, 0, false, false⟩) u := Tryz.zeroValue58
theorem PT.len {w : World} {b m : Nat} {t : TbM} (h : PT w b m t) (ty : TypeId) : (Builtin.len_ #[96] ty #[.map (some m)]).run Tryz.prog w = .ok (.int .i64 (t.L.length : Int)) w := by
  have e1 : t.L.length = Maps.size (mapE (H := Value) .held (prT t.L)) := by rw [mapE_size, prT_len]
  rw [e1]
  exact World.ownsMap.len h.mp Tryz.underlying96 ty
theorem PT.look {w : World} {b m : Nat} {t : TbM} (h : PT w b m t) {x : Int} (hx : I64 x) : (Instr.lookup 96 (.map (some m)) (.int .i64 x) false).run Tryz.prog w = .ok (((getT t.L x).map lvV).getD (lvV ⟨0, 0, false, false⟩)) w := by
  have := any_run lawK Tryz.underlying96 zero26 h.mp (keyI hx)
  rw [getM_prT] at this
  exact this
theorem PT.look2 {w : World} {b m : Nat} {t : TbM} (h : PT w b m t) {x : Int} (hx : I64 x) : (Instr.lookup 96 (.map (some m)) (.int .i64 x) true).run Tryz.prog w = .ok (.tuple #[((getT t.L x).map lvV).getD (lvV ⟨0, 0, false, false⟩), .bool (getT t.L x).isSome]) w := by
  obtain ⟨v, ps, hrun, hv⟩ := World.ownsMap.look_ok h.mp lawK Tryz.underlying96 (zero26 w) (show anyElem (lvV ⟨0, 0, false, false⟩) = some (.held (lvV ⟨0, 0, false, false⟩), []) from rfl) (keyI hx)
  rw [any_look hv, getM_prT, mapE_has, hasM_get, getM_prT] at hrun
  simpa using hrun
/-- The table with another list, where only the map was written. -/
theorem PT.put {w w' : World} {b m n : Nat} {t : TbM} (h : PT w b m t) {x : Int} {v : Value} {t' : TbM} (hp : w'.ownsMap Tryz.prog 3 anyElem m n ((mapE .held (prT t.L)).put (.int .i64 x) (.held v))) (hg : w.grownBy w' (some m)) (he : putM x v (prT t.L) = prT t'.L) (hn : t'.next = t.next) (hok : t'.Ok) : PT w' b m t' := by
  have hk : Keep (fun z => z = m) w w' := (Keep.refl _ w).grown hg (fun _ e _ => by cases e; rfl)
  refine ⟨by rw [hn]; exact h.box.keep hk h.ne, ?_, hok⟩
  have := AnyAt.put (prT_up h.ok.rise) hp
  rw [he] at this
  exact this
theorem keepM {w w' : World} {m : Nat} (hg : w.grownBy w' (some m)) : Keep (fun z => z = m) w w' := (Keep.refl _ w).grown hg (fun _ e _ => by cases e; rfl)
theorem ptr_nil (b : Nat) (ty : TypeId) (hty : ty = 79 ∨ ty = 69) (w : World) : (binOp .eql ty (ptr b) (.pointer none)).run Tryz.prog w = .ok (.bool false) w ∧ (binOp .neq ty (ptr b) (.pointer none)).run Tryz.prog w = .ok (.bool true) w := by
  rcases hty with rfl | rfl <;> (constructor <;> go_simp)
set_option maxHeartbeats 400000 in
theorem new_no (n : Int) (w : World) (h : isNext n = false) : Calls Tryz.prog 28 #[.int .i64 n] w fun r w' => r = .returned (.tuple #[.pointer none, .int .i64 4]) ∧ w = w' := by
  have K := mayNext_any n w
  rw [h] at K
  go_enter Tryz.func28, Tryz.ntmps28
  go_wp2_with (go_at_call 43; refine K.mono ?_; rintro e wz ⟨rfl, rfl⟩)
  go_ret2
  exact ⟨rfl, rfl⟩
set_option maxHeartbeats 400000 in
theorem new_yes (n : Int) (w : World) (h : isNext n = true) : Calls Tryz.prog 28 #[.int .i64 n] w fun r w' => r = .returned (.tuple #[ptr (w.heap.size + 1), .int .i64 0]) ∧ PT w' (w.heap.size + 1) w.heap.size ⟨[], n⟩ ∧ Below w.heap.size w w' ∧ w'.heap.size = w.heap.size + 2 := by
  have hmm := @run_makeMap Tryz.prog
  have K := mayNext_any n w
  rw [h] at K
  go_enter Tryz.func28, Tryz.ntmps28
  go_wp2_with (go_at_call 43; refine K.mono ?_; rintro e wz ⟨rfl, rfl⟩)
  go_ret2
  refine ⟨rfl, ⟨?_, ?_, TbM.Ok.new h⟩, ?_, by simp⟩
  · have := Cells.new (w.alloc (.map #[] 0)) #[.map (some w.heap.size), .int .i64 n] 98
    simpa using this
  · exact anyAt_below (AnyAt.made Tryz.prog 3 w) (alloc_below _ _)
  · exact (alloc_below _ _).alloc (by simp) _
set_option maxHeartbeats 400000 in
theorem next_any (b m : Nat) (t : TbM) (w : World) (h : PT w b m t) : Calls Tryz.prog 35 #[ptr b] w fun r w' => r = .returned (.int .i64 t.next) ∧ w = w' := by
  obtain ⟨k1, _⟩ := h.box.get 1 _ rfl
  clear h
  go_enter Tryz.func35, Tryz.ntmps35
  go_wp2
  go_ret
  exact ⟨rfl, rfl⟩
set_option maxHeartbeats 400000 in
theorem full_any (b m : Nat) (t : TbM) (w : World) (h : PT w b m t) : Calls Tryz.prog 84 #[ptr b] w fun r w' => r = .returned (.bool t.full) ∧ w = w' := by
  obtain ⟨k0, _⟩ := h.box.get 0 _ rfl
  obtain ⟨k1, _⟩ := h.box.get 1 _ rfl
  have hl := fun ty => h.len ty
  unfold TbM.full
  have hn : t.L.length ≤ 32 := h.ok.few
  clear h
  generalize t.L.length = n at *
  by_cases h1 : 32 ≤ n
  · have e1 : decide (32 ≤ n) = true := by simpa using h1
    have e2 : decide ((32 : Int) ≤ (n : Int)) = true := by simp; omega
    rw [e1, Bool.true_or]
    go_enter Tryz.func84, Tryz.ntmps84
    go_wp2
    go_ret
    exact ⟨rfl, rfl⟩
  · have e1 : decide (32 ≤ n) = false := by simpa using h1
    have e2 : decide ((32 : Int) ≤ (n : Int)) = false := by simp; omega
    rw [e1, Bool.false_or]
    go_enter Tryz.func84, Tryz.ntmps84
    go_wp2
    go_ret
    exact ⟨rfl, rfl⟩
end Go.Proofs.YtblngphjoafidaaGreat
