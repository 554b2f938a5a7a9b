import Derived.Test.YtoocbpbaieedmaaAp11
namespace Go.Proofs.Ytoocbpbaieedmaa
open Go.RowKit Go.QK Quota
set_option maxRecDepth 100000
section
variable {ops : Array Oper} {rest : List Oper} {a : Act} {w : World} {Q : Exit → Act → World → Prop} {d : Option Tmp} {ty : TypeId} {ps : String} {af : Array Edge} {x y : Operand} {b : Nat} {cs cs' : Array Value}
theorem wpList_store38 (hb : RBox w b 38 cs) (hs : cs.size = 17) (hs' : cs'.size = 17) (h1 : cs'.toList.all (·.oneCell') = true) (hx : a.eval x = .pointer (some ⟨b, 0, none⟩)) (hy : a.eval y = .agg cs')
    (h : ∀ w', RBox w' b 38 cs' → Keep (fun k => k = b) w w' → wpList Try.prog ops Q rest (a.put d undef) w') :
    wpList Try.prog ops Q ({ dst := d, op := .store 38 x y, type := ty, pos := ps, after := af, guard := none } :: rest) a w := by
  have hrun := run_storeVar_row (P := Try.prog) w b 38 38 cs cs' hb (size38' hs') (by rw [hs, hs']) (by rw [← Array.all_toList]; exact h1)
  refine wpList_plain rfl fun K hK => ?_
  unfold Oper.wp execOp
  simp only [hx, hy, Instr.storeAt, Instr.sureAddr, Sem.run_bind, Sem.run_pure, Result.andThen_ok, hrun]
  exact hK _ _ (h _ (RBox.setRow hb cs') (keep_setRow _ _ _))
theorem wpList_load38g {g : Option (Nat × Bool)} (hb : RBox w b 38 cs) (hs : cs.size = 17) (hx : a.eval x = .pointer (some ⟨b, 0, none⟩)) (hw : Region.wanted { dst := d, op := .load 38 x, type := ty, pos := ps, after := af, guard := g } (yielded ops a.tmps) = true) (h : wpList Try.prog ops Q rest (a.put d (.agg cs)) w) :
    wpList Try.prog ops Q ({ dst := d, op := .load 38 x, type := ty, pos := ps, after := af, guard := g } :: rest) a w :=
  wpList_step fun _ hK => by
    rw [if_pos hw]
    exact wp_load_row 38 x rfl b hx 38 cs (0, 0) _ hb Try.underlying38 rfl (size38' hs) (hK _ _ h)
end
theorem wp_store38 {o : Oper} {a : Act} {x : World} {K : Act → World → Prop} {Q : Exit → Act → World → Prop} {cond : Bool} {b : Nat} {cs cs' : Array Value} (p y : Operand) (hc : cond = true) (hd : o.dst = none)
    (ho : o.op = .store 38 p y) (hp : a.eval p = .pointer (some ⟨b, 0, none⟩)) (hy : a.eval y = .agg cs') (hb : RBox x b 38 cs) (hs : cs.size = 17) (hs' : cs'.size = 17) (h1 : cs'.toList.all (·.oneCell') = true)
    (h : ∀ x', RBox x' b 38 cs' → Keep (fun k => k = b) x x' → K (a.put none undef) x') : if cond = true then Oper.wp Try.prog o a x K Q else K (a.put o.dst undef) x := by
  rw [if_pos hc]
  have hrun := run_storeVar_row (P := Try.prog) x b 38 38 cs cs' hb (size38' hs') (by rw [hs, hs']) (by rw [← Array.all_toList]; exact h1)
  unfold Oper.wp execOp
  simp only [ho, hp, hy, Instr.storeAt, Instr.sureAddr, Sem.run_bind, Sem.run_pure, Result.andThen_ok, hrun]
  have := h _ (RBox.setRow hb cs') (keep_setRow _ _ _)
  rw [← hd] at this
  exact this
def pagesL (r : Rc) : List Int := if chg r.k = false then [] else if r.wp = r.sp then [r.wp] else if r.wp < r.sp then [r.wp, r.sp] else [r.sp, r.wp]
abbrev iC (n : Int) : List Value := [.int .i64 n]
theorem icell {w w' : World} {a : Option Addr} {l : List Int} {k : Nat} (h : Lies w a (rowsC iC l)) (hb : Below w.heap.size w w') (hk : k < l.length) : ∃ b o, a = some ⟨b, o, none⟩ ∧ w'.cell? ⟨b, o + k, none⟩ = some (.int .i64 l[k]) := by
  obtain ⟨b, o, e, lt, q⟩ := Lies.rowAt iC 1 (fun _ => rfl) (h.below hb) k hk (by decide)
  have := q 0 _ rfl
  rw [Nat.mul_one, Nat.add_zero] at this
  exact ⟨b, o, e, this⟩
set_option maxHeartbeats 2000000 in
theorem sameInts_true (l : List Int) (a b : Option Addr) (c d : Nat) (w : World) (h1 : Lies w a (rowsC iC l)) (h2 : Lies w b (rowsC iC l)) (hl : l.length ≤ 1000000) :
    Calls Try.prog 20 #[.slice a l.length c, .slice b l.length d] w fun e w' => e = .returned (.bool true) ∧ Below w.heap.size w w' := by
  go_enter Try.func20, Try.ntmps20
  go_wp2
  go_loopw [5] (fun v wr => ∃ k : Nat, v = .int .i64 (k : Int) ∧ k ≤ l.length ∧ Below w.heap.size w wr) (fun v _ => l.length - (intOf v).toNat)
  case atStart => exact ⟨0, rfl, Nat.zero_le _, Below.refl _ _⟩
  case round =>
    obtain ⟨k, rfl, hk, hb⟩ := hrel
    by_cases hlt : k < l.length
    · obtain ⟨b1, o1, rfl, p0⟩ := icell h1 hb hlt
      obtain ⟨b2, o2, rfl, r0⟩ := icell h2 hb hlt
      have HB := hide hb
      generalize l[k] = x at *
      clear hb h1 h2
      go_upto_region 6 with fail
      go_quiet (fail)
      go_wp2_with fail
      go_roundw
      case rel => exact ⟨k + 1, by go_num, by omega, below_drewN HB.out _⟩
      case measure => simp [intOf]; omega
    · have HB := hide hb
      clear hb h1 h2
      go_wp2
      exact bodyPost_ret (v := .bool true) (by simp [results, Try.results20, go_sem]) rfl ⟨rfl, HB.out⟩
def PagesPost (w : World) (r : Rc) (e : Ending) (w' : World) : Prop := ∃ v, e = .returned v ∧ GRow w' w.heap.size 3 1 v (pagesL r).length (rowsC iC (pagesL r)) ∧ Below w.heap.size w w'
set_option maxHeartbeats 4000000 in
theorem pages_no (r : Rc) (w : World) (h1 : chg r.k = false) : Calls Try.prog 21 #[recV r] w (PagesPost w r) := by
  have hL : pagesL r = [] := by unfold pagesL; rw [if_pos h1]
  unfold PagesPost
  rw [hL]
  clear hL
  obtain ⟨lsn, k, tx, prev, wp, wi, sp, si, delta, ⟨cid, cgrp, clo, chi, cval⟩, x, y, z⟩ := r
  simp only [recV, recA] at *
  obtain ⟨RA, hRA⟩ : ∃ RA : Array Value, RA = #[.int .i64 lsn, .int .i64 k, .int .i64 tx, .int .i64 prev, .int .i64 wp, .int .i64 wi, .int .i64 sp, .int .i64 si, .int .i64 delta, .int .i64 cid, .int .i64 cgrp, .int .i64 clo, .int .i64 chi, .int .i64 cval, x, y, z] := ⟨_, rfl⟩
  have hk0 := hide (show ∀ (u : World) (n : Nat), RBox u n 38 RA → u.cell? ⟨n, 1, none⟩ = some (.int .i64 k) ∧ u.cell? ⟨n, 4, none⟩ = some (.int .i64 wp) ∧ u.cell? ⟨n, 6, none⟩ = some (.int .i64 sp) from fun u n q => by subst hRA; exact ⟨(q.cells.get 1 _ rfl).1, (q.cells.get 4 _ rfl).1, (q.cells.get 6 _ rfl).1⟩)
  rw [← hRA]
  clear hRA
  go_enter Try.func21, Try.ntmps21
  go_upto_region 1 with fail
  refine named (P := Code.wp _ _ _ _) ?_
  intro w1 hw1
  have b1 : Below w.heap.size w w1 := by rw [hw1]; exact alloc_below _ _
  have B1 := hide b1
  obtain ⟨f1, f4, f6⟩ := hk0.out w1 w.heap.size (by rw [hw1]; exact RBox.new _ _ _)
  clear hw1 b1 hk0
  go_upto_region 2 with (go_quiet (fail))
  have KC := fun w' => changes_any k w'
  try simp only at h1
  rw [h1] at KC
  go_wp2_with (go_at_call 30; refine (KC _).mono ?_; rintro e w3 ⟨rfl, rfl⟩)
  exact bodyPost_ret (v := .slice none 0 0) (by simp [results, Try.results21, go_sem]) rfl ⟨_, rfl, World.ownsRow_nil _ _ _ _, bel B1.out⟩
set_option maxHeartbeats 4000000 in
theorem pages_one (r : Rc) (w : World) (h1 : chg r.k = true) (h2 : r.wp = r.sp) : Calls Try.prog 21 #[recV r] w (PagesPost w r) := by
  have hL : pagesL r = [r.wp] := by unfold pagesL; rw [if_neg (by simp [h1]), if_pos h2]
  unfold PagesPost
  rw [hL]
  clear hL
  obtain ⟨lsn, k, tx, prev, wp, wi, sp, si, delta, ⟨cid, cgrp, clo, chi, cval⟩, x, y, z⟩ := r
  try simp only at h2
  subst h2
  simp only [recV, recA] at *
  obtain ⟨RA, hRA⟩ : ∃ RA : Array Value, RA = #[.int .i64 lsn, .int .i64 k, .int .i64 tx, .int .i64 prev, .int .i64 wp, .int .i64 wi, .int .i64 wp, .int .i64 si, .int .i64 delta, .int .i64 cid, .int .i64 cgrp, .int .i64 clo, .int .i64 chi, .int .i64 cval, x, y, z] := ⟨_, rfl⟩
  have hk0 := hide (show ∀ (u : World) (n : Nat), RBox u n 38 RA → u.cell? ⟨n, 1, none⟩ = some (.int .i64 k) ∧ u.cell? ⟨n, 4, none⟩ = some (.int .i64 wp) ∧ u.cell? ⟨n, 6, none⟩ = some (.int .i64 wp) from fun u n q => by subst hRA; exact ⟨(q.cells.get 1 _ rfl).1, (q.cells.get 4 _ rfl).1, (q.cells.get 6 _ rfl).1⟩)
  rw [← hRA]
  clear hRA
  go_enter Try.func21, Try.ntmps21
  go_upto_region 1 with fail
  refine named (P := Code.wp _ _ _ _) ?_
  intro w1 hw1
  have b1 : Below w.heap.size w w1 := by rw [hw1]; exact alloc_below _ _
  have B1 := hide b1
  obtain ⟨f1, f4, f6⟩ := hk0.out w1 w.heap.size (by rw [hw1]; exact RBox.new _ _ _)
  clear hw1 b1 hk0
  go_upto_region 2 with (go_quiet (fail))
  have KC := fun w' => changes_any k w'
  try simp only at h1
  rw [h1] at KC
  go_wp2_with (go_at_call 30; refine (KC _).mono ?_; rintro e w3 ⟨rfl, rfl⟩)
  have hB : w.heap.size ≤ (w1.drewN nq).heap.size := B1.out.size
  have G := World.ownsRow_lit (base := w.heap.size) (e := 3) (size := 1) (w1.drewN nq) #[.int .i64 wp] 1 hB (by unfold maxLen; omega) rfl
  exact bodyPost_ret (v := .slice (some ⟨w1.heap.size, 0, none⟩) 1 1) (by simp [results, Try.results21, go_sem]) rfl ⟨_, rfl, G, (bel B1.out).alloc hB _⟩
set_option maxHeartbeats 4000000 in
theorem pages_lt (r : Rc) (w : World) (h1 : chg r.k = true) (h2 : r.wp < r.sp) : Calls Try.prog 21 #[recV r] w (PagesPost w r) := by
  have hL : pagesL r = [r.wp, r.sp] := by unfold pagesL; rw [if_neg (by simp [h1]), if_neg (by omega), if_pos h2]
  unfold PagesPost
  rw [hL]
  clear hL
  obtain ⟨lsn, k, tx, prev, wp, wi, sp, si, delta, ⟨cid, cgrp, clo, chi, cval⟩, x, y, z⟩ := r
  simp only [recV, recA] at *
  obtain ⟨RA, hRA⟩ : ∃ RA : Array Value, RA = #[.int .i64 lsn, .int .i64 k, .int .i64 tx, .int .i64 prev, .int .i64 wp, .int .i64 wi, .int .i64 sp, .int .i64 si, .int .i64 delta, .int .i64 cid, .int .i64 cgrp, .int .i64 clo, .int .i64 chi, .int .i64 cval, x, y, z] := ⟨_, rfl⟩
  have hk0 := hide (show ∀ (u : World) (n : Nat), RBox u n 38 RA → u.cell? ⟨n, 1, none⟩ = some (.int .i64 k) ∧ u.cell? ⟨n, 4, none⟩ = some (.int .i64 wp) ∧ u.cell? ⟨n, 6, none⟩ = some (.int .i64 sp) from fun u n q => by subst hRA; exact ⟨(q.cells.get 1 _ rfl).1, (q.cells.get 4 _ rfl).1, (q.cells.get 6 _ rfl).1⟩)
  rw [← hRA]
  clear hRA
  go_enter Try.func21, Try.ntmps21
  go_upto_region 1 with fail
  refine named (P := Code.wp _ _ _ _) ?_
  intro w1 hw1
  have b1 : Below w.heap.size w w1 := by rw [hw1]; exact alloc_below _ _
  have B1 := hide b1
  obtain ⟨f1, f4, f6⟩ := hk0.out w1 w.heap.size (by rw [hw1]; exact RBox.new _ _ _)
  clear hw1 b1 hk0
  go_upto_region 2 with (go_quiet (fail))
  have KC := fun w' => changes_any k w'
  try simp only at h1
  rw [h1] at KC
  try simp only at h2
  have h2' : (wp == sp) = false := by simp; omega
  go_wp2_with (go_at_call 30; refine (KC _).mono ?_; rintro e w3 ⟨rfl, rfl⟩)

  have hB : w.heap.size ≤ (w1.drewN nq).heap.size := B1.out.size
  have G := World.ownsRow_lit (base := w.heap.size) (e := 3) (size := 1) (w1.drewN nq) #[.int .i64 wp, .int .i64 sp] 2 hB (by unfold maxLen; omega) rfl
  exact bodyPost_ret (v := .slice (some ⟨w1.heap.size, 0, none⟩) 2 2) (by simp [results, Try.results21, go_sem]) rfl ⟨_, rfl, G, (bel B1.out).alloc hB _⟩
set_option maxHeartbeats 4000000 in
theorem pages_gt (r : Rc) (w : World) (h1 : chg r.k = true) (h2 : r.sp < r.wp) : Calls Try.prog 21 #[recV r] w (PagesPost w r) := by
  have hL : pagesL r = [r.sp, r.wp] := by unfold pagesL; rw [if_neg (by simp [h1]), if_neg (by omega), if_neg (by omega)]
  unfold PagesPost
  rw [hL]
  clear hL
  obtain ⟨lsn, k, tx, prev, wp, wi, sp, si, delta, ⟨cid, cgrp, clo, chi, cval⟩, x, y, z⟩ := r
  simp only [recV, recA] at *
  obtain ⟨RA, hRA⟩ : ∃ RA : Array Value, RA = #[.int .i64 lsn, .int .i64 k, .int .i64 tx, .int .i64 prev, .int .i64 wp, .int .i64 wi, .int .i64 sp, .int .i64 si, .int .i64 delta, .int .i64 cid, .int .i64 cgrp, .int .i64 clo, .int .i64 chi, .int .i64 cval, x, y, z] := ⟨_, rfl⟩
  have hk0 := hide (show ∀ (u : World) (n : Nat), RBox u n 38 RA → u.cell? ⟨n, 1, none⟩ = some (.int .i64 k) ∧ u.cell? ⟨n, 4, none⟩ = some (.int .i64 wp) ∧ u.cell? ⟨n, 6, none⟩ = some (.int .i64 sp) from fun u n q => by subst hRA; exact ⟨(q.cells.get 1 _ rfl).1, (q.cells.get 4 _ rfl).1, (q.cells.get 6 _ rfl).1⟩)
  rw [← hRA]
  clear hRA
  go_enter Try.func21, Try.ntmps21
  go_upto_region 1 with fail
  refine named (P := Code.wp _ _ _ _) ?_
  intro w1 hw1
  have b1 : Below w.heap.size w w1 := by rw [hw1]; exact alloc_below _ _
  have B1 := hide b1
  obtain ⟨f1, f4, f6⟩ := hk0.out w1 w.heap.size (by rw [hw1]; exact RBox.new _ _ _)
  clear hw1 b1 hk0
  go_upto_region 2 with (go_quiet (fail))
  have KC := fun w' => changes_any k w'
  try simp only at h1
  rw [h1] at KC
  try simp only at h2
  have h2' : (wp == sp) = false := by simp; omega
  go_wp2_with (go_at_call 30; refine (KC _).mono ?_; rintro e w3 ⟨rfl, rfl⟩)
  have hB : w.heap.size ≤ (w1.drewN nq).heap.size := B1.out.size
  have G := World.ownsRow_lit (base := w.heap.size) (e := 3) (size := 1) (w1.drewN nq) #[.int .i64 sp, .int .i64 wp] 2 hB (by unfold maxLen; omega) rfl
  exact bodyPost_ret (v := .slice (some ⟨w1.heap.size, 0, none⟩) 2 2) (by simp [results, Try.results21, go_sem]) rfl ⟨_, rfl, G, (bel B1.out).alloc hB _⟩
theorem pages_any (r : Rc) (w : World) : Calls Try.prog 21 #[recV r] w (PagesPost w r) := by
  cases h1 : chg r.k with
  | false => exact pages_no r w h1
  | true =>
    by_cases h2 : r.wp = r.sp
    · exact pages_one r w h1 h2
    · by_cases h3 : r.wp < r.sp
      · exact pages_lt r w h1 h3
      · exact pages_gt r w h1 (by omega)
end Go.Proofs.Ytoocbpbaieedmaa
