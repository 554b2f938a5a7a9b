import Derived.Test.YtoocbpbaieedmaaApT
import Derived.Deep.QuietTactic
import Derived.BigQuiet
import Derived.Deep.DeepCutAuto
namespace Go.Proofs.Ytoocbpbaieedmaa
open Go.RowKit Go.QK Quota
set_option maxRecDepth 100000
/-! How pages and records lie in memory. -/
abbrev ctrC (c : Ctr) : List Value := [.int .i64 c.id, .int .i64 c.grp, .int .i64 c.lo, .int .i64 c.hi, .int .i64 c.val]
abbrev grpC (g : Grp) : List Value := [.int .i64 g.id, .int .i64 g.sum]
abbrev recA (r : Rc) : Array Value := #[.int .i64 r.lsn, .int .i64 r.k, .int .i64 r.tx, .int .i64 r.prev, .int .i64 r.wp, .int .i64 r.wi, .int .i64 r.sp, .int .i64 r.si, .int .i64 r.delta, .int .i64 r.c.id, .int .i64 r.c.grp, .int .i64 r.c.lo, .int .i64 r.c.hi, .int .i64 r.c.val, r.x, r.y, r.z]
abbrev recV (r : Rc) : Value := .agg (recA r)
structure At where
  (a : Option Addr)
  (c : Nat)
  (b : Option Addr)
  (d : Nat)
abbrev pgA (num lsn : Int) (v1 v2 : Value) : Array Value := #[.int .i64 num, .int .i64 lsn, v1, v2]
abbrev pgV (p : Pg) (t : At) : Value := .agg (pgA p.num p.lsn (.slice t.a p.cs.length t.c) (.slice t.b p.gs.length t.d))
/-- A page that is read. -/
structure PIn (w : World) (p : Pg) (t : At) : Prop where
  lc : Lies w t.a (rowsC ctrC p.cs)
  lg : Lies w t.b (rowsC grpC p.gs)
  nc : t.a = none → t.c = 0 ∧ p.cs.length = 0
  ng : t.b = none → t.d = 0 ∧ p.gs.length = 0
  cc : p.cs.length ≤ t.c
  cg : p.gs.length ≤ t.d
theorem PIn.below {w w' : World} {p : Pg} {t : At} (h : PIn w p t) (hb : Below w.heap.size w w') : PIn w' p t := ⟨h.lc.below hb, h.lg.below hb, h.nc, h.ng, h.cc, h.cg⟩
theorem num_any (e : Int) (w : World) : Calls Try.prog 15 #[.int .i64 e] w fun r w' => r = .returned (.int .i64 e) ∧ w' = w := by
  go_enter Try.func15, Try.ntmps15
  go_wp2_with fail
  exact bodyPost_ret (v := .int .i64 e) (by simp [results, Try.results15, go_sem]) rfl ⟨rfl, rfl⟩
theorem changes_any (k : Int) (w : World) : Calls Try.prog 30 #[.int .i64 k] w fun r w' => r = .returned (.bool (chg k)) ∧ w' = w := by
  unfold chg
  by_cases h2 : (k == 2) = true
  · rw [h2]
    go_enter Try.func30, Try.ntmps30
    go_wp2_with fail
    exact bodyPost_ret (v := .bool true) (by simp [results, Try.results30, go_sem]) rfl ⟨rfl, rfl⟩
  · have h2' : (k == 2) = false := by simpa using h2
    clear h2
    by_cases h3 : (k == 3) = true
    · rw [h3, h2']
      go_enter Try.func30, Try.ntmps30
      go_wp2_with fail
      exact bodyPost_ret (v := .bool true) (by simp [results, Try.results30, go_sem]) rfl ⟨rfl, rfl⟩
    · have h3' : (k == 3) = false := by simpa using h3
      clear h3
      rw [h2', h3']
      go_enter Try.func30, Try.ntmps30
      go_wp2_with fail
      exact bodyPost_ret (v := .bool (k == 4)) (by simp [results, Try.results30, go_sem]) rfl ⟨by simp, rfl⟩
/-- The record's box. -/
theorem rbox_new (w : World) (r : Rc) : RBox (w.alloc (.cells (recA r) 38)) w.heap.size 38 (recA r) := RBox.new _ _ _
theorem size38 : (Try.prog.info? 38).map (·.size) = some 17 := by kernel_rfl
theorem size38' {cs : Array Value} (h : cs.size = 17) : (Try.prog.info? 38).map (·.size) = some cs.size := by rw [h]; exact size38
theorem wpList_load38 {ops : Array Oper} {rest : List Oper} {a : Act} {w : World} {Q : Exit → Act → World → Prop} {d : Option Tmp} {ty : TypeId} {ps : String} {af : Array Edge} {x : Operand} {b : Nat} {cs : Array Value} (hb : RBox w b 38 cs) (hs : cs.size = 17) (hx : a.eval x = .pointer (some ⟨b, 0, none⟩)) (h : wpList Try.prog ops Q rest (a.put d (.agg cs)) w) :
    wpList Try.prog ops Q ({ dst := d, op := .load 38 x, type := ty, pos := ps, after := af, guard := none } :: rest) a w :=
  wpList_load_row rfl 38 x rfl b hx 38 cs (0, 0) _ hb Try.underlying38 rfl (size38' hs) h
set_option maxHeartbeats 4000000 in
theorem check_any (p : Pg) (t : At) (r : Rc) (w : World) : Calls Try.prog 22 #[pgV p t, recV r] w fun e w' => e = .returned (.int .i64 (ckE p.num r)) ∧ Below w.heap.size w w' := by
  obtain ⟨num, lsn, cs, gs⟩ := p
  obtain ⟨E, hE⟩ : ∃ E, E = ckE num r := ⟨_, rfl⟩
  show Calls Try.prog 22 #[.agg (pgA num lsn (.slice t.a cs.length t.c) (.slice t.b gs.length t.d)), recV r] w fun e w' => e = .returned (.int .i64 (ckE num r)) ∧ Below w.heap.size w w'
  rw [← hE]
  go_enter Try.func22, Try.ntmps22
  go_upto_region 1 with fail
  refine named (P := Code.wp _ _ _ _) ?_
  intro w2 hw2
  have B2 := hide (show Below w.heap.size w w2 by rw [hw2]; exact bnext (alloc_below _ _) (alloc_below _ _) (Nat.le_refl _))
  have c2 : Cells w2 w.heap.size [.int .i64 num, .int .i64 lsn, .slice t.a cs.length t.c, .slice t.b gs.length t.d] := by rw [hw2]; exact (Cells.new w _ _).below (alloc_below _ _)
  have r2 : RBox w2 (w.heap.size + 1) 38 (recA r) := by
    rw [hw2]
    have q := rbox_new (w.alloc (.cells (pgA num lsn (.slice t.a cs.length t.c) (.slice t.b gs.length t.d)) 40)) r
    rw [World.size_alloc] at q
    exact q
  obtain ⟨f0, -⟩ := c2.get 0 _ rfl
  obtain ⟨g0, -⟩ := r2.cells.get 0 _ rfl
  obtain ⟨g1, -⟩ := r2.cells.get 1 _ rfl
  obtain ⟨g4, -⟩ := r2.cells.get 4 _ rfl
  obtain ⟨g6, -⟩ := r2.cells.get 6 _ rfl
  clear c2 r2 hw2
  cases k1 : chg r.k with
  | false =>
    have e1 : E = 70 := by rw [hE]; unfold ckE; rw [if_pos k1]
    have E1 := hide e1
    have K1 := hide k1
    clear hE e1 k1
    go_wp2_with (go_at_call 30; refine (changes_any r.k _).mono ?_; rintro e w3 ⟨rfl, rfl⟩; rw [K1.out])
    exact bodyPost_ret (v := .int .i64 70) (by simp [results, Try.results22, go_sem]) rfl ⟨by rw [E1.out], B2.out⟩
  | true =>
    have hE2 : E = if r.lsn < 1 ∨ 2147483647 < r.lsn ∨ r.wp = r.sp then 23 else if num ≠ r.wp ∧ num ≠ r.sp then 82 else 0 := by rw [hE]; unfold ckE; rw [if_neg (by simp [k1])]
    have K1 := hide k1
    have HE2 := hide hE2
    clear hE k1 hE2
    by_cases h1 : decide (r.lsn < 1) = true
    · have e1 := hide (show E = 23 by rw [HE2.out, if_pos (.inl (of_decide_eq_true h1))])
      clear HE2
      go_wp2_with (go_at_call 30; refine (changes_any r.k _).mono ?_; rintro e w3 ⟨rfl, rfl⟩; rw [K1.out])
      exact bodyPost_ret (v := .int .i64 23) (by simp [results, Try.results22, go_sem]) rfl ⟨by rw [e1.out], B2.out⟩
    · have h1' : decide (r.lsn < 1) = false := by simpa using h1
      clear h1
      by_cases h2 : decide (2147483647 < r.lsn) = true
      · have e1 := hide (show E = 23 by rw [HE2.out, if_pos (.inr (.inl (of_decide_eq_true h2)))])
        clear HE2
        go_wp2_with (go_at_call 30; refine (changes_any r.k _).mono ?_; rintro e w3 ⟨rfl, rfl⟩; rw [K1.out])
        exact bodyPost_ret (v := .int .i64 23) (by simp [results, Try.results22, go_sem]) rfl ⟨by rw [e1.out], B2.out⟩
      · have h2' : decide (2147483647 < r.lsn) = false := by simpa using h2
        clear h2
        have n1 := of_decide_eq_false h1'
        have n2 := of_decide_eq_false h2'
        by_cases h3 : (r.wp == r.sp) = true
        · have e1 := hide (show E = 23 by rw [HE2.out, if_pos (.inr (.inr (by simpa using h3)))])
          clear HE2 n1 n2
          go_wp2_with (go_at_call 30; refine (changes_any r.k _).mono ?_; rintro e w3 ⟨rfl, rfl⟩; rw [K1.out])
          exact bodyPost_ret (v := .int .i64 23) (by simp [results, Try.results22, go_sem]) rfl ⟨by rw [e1.out], B2.out⟩
        · have h3' : (r.wp == r.sp) = false := by simpa using h3
          have n3 : ¬ r.wp = r.sp := by simpa using h3
          clear h3
          have hE3 : E = if num ≠ r.wp ∧ num ≠ r.sp then 82 else 0 := by rw [HE2.out, if_neg (by rintro (q | q | q); exact n1 q; exact n2 q; exact n3 q)]
          have HE3 := hide hE3
          clear HE2 hE3 n1 n2 n3
          by_cases h4 : (num == r.wp) = true
          · have e1 := hide (show E = 0 by rw [HE3.out, if_neg (fun q => q.1 (by simpa using h4))])
            have h4' : (num != r.wp) = false := by simp [bne, h4]
            clear HE3 h4
            go_wp2_with (go_at_call 30; refine (changes_any r.k _).mono ?_; rintro e w3 ⟨rfl, rfl⟩; rw [K1.out])
            exact bodyPost_ret (v := .int .i64 0) (by simp [results, Try.results22, go_sem]) rfl ⟨by rw [e1.out], B2.out⟩
          · have h4' : (num != r.wp) = true := by simpa [bne] using h4
            have n4 : ¬ num = r.wp := by simpa using h4
            by_cases h5 : (num == r.sp) = true
            · have e1 := hide (show E = 0 by rw [HE3.out, if_neg (fun q => q.2 (by simpa using h5))])
              have h5' : (num != r.sp) = false := by simp [bne, h5]
              clear HE3 h4 h5 n4
              go_wp2_with (go_at_call 30; refine (changes_any r.k _).mono ?_; rintro e w3 ⟨rfl, rfl⟩; rw [K1.out])
              exact bodyPost_ret (v := .int .i64 0) (by simp [results, Try.results22, go_sem]) rfl ⟨by rw [e1.out], B2.out⟩
            · have h5' : (num != r.sp) = true := by simpa [bne] using h5
              have e1 := hide (show E = 82 by rw [HE3.out, if_pos ⟨n4, by simpa using h5⟩])
              clear HE3 h4 h5 n4
              go_wp2_with (go_at_call 30; refine (changes_any r.k _).mono ?_; rintro e w3 ⟨rfl, rfl⟩; rw [K1.out])
              exact bodyPost_ret (v := .int .i64 82) (by simp [results, Try.results22, go_sem]) rfl ⟨by rw [e1.out], B2.out⟩
end Go.Proofs.Ytoocbpbaieedmaa
